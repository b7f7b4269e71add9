/- Chapter 10's data, by program.
   Chapter 11's data, by program.
   Chapter 12's data, by program.
   Chapter 12's data, by program.
   Exact laws of chapter 12: EqualVats.
   Of no program: a law's arguments opened as data.
   What a law of chapter 12 is handed, as data.
   For every two vats, valid or not, laws.FnExactEqualVats returns true: impl.EqualVats answers as the reference model's EqualVats, and writes into nothing that it was handed. Conditions: none beyond the form's. Each argument reads behind the call as it read before. -/
import Derived.Test.YtmeacgpebpfpbaaTyG1
import Derived.LoopTactic
import Derived.Lib.Hide
import Derived.Deep.QuietTactic
import Derived.BigQuiet
import Derived.Deep.RegionWith
import Derived.Handy
import Derived.Test.YtmeacgpebpfpbaaTyM1
import Derived.Test.YtmeacgpebpfpbaaMgEqualVats0
import Derived.Test.YtmeacgpebpfpbaaTyV0
import Derived.Test.YtmeacgpebpfpbaaLawV0
import Derived.Test.YtmeacgpebpfpbaaEqV
import Derived.Test.YtmeacgpebpfpbaaEqVS
import Derived.Test.YtmeacgpebpfpbaaTyV4
import Derived.Deep.RegionHeld3
import Derived.Test.YtmeacgpebpfpbaaTyE0
import Derived.Test.YtmeacgpebpfpbaaRows
import Derived.Test.YtmeacgpebpfpbaaBase
import Derived.WalkKit
import Derived.ProofKit
import Derived.OpenShut
import Derived.Carry
import Derived.SizedLaws
import Derived.ChangeSlices
import Derived.Deep.DeepHandedRow
section
namespace Go.Proofs.Ytmeacgpebpfpbaa
open Go.RowKit
set_option linter.unusedVariables false
set_option linter.unusedSimpArgs false
theorem noneExport {L : List Dat} (ht : ∀ x ∈ L, Has tyExport x) : bulkAll L = 0 := bulk_none (t := tyExport) rfl ht
set_option maxRecDepth 100000 in
set_option maxHeartbeats 4000000 in
theorem szExportS (L : List Dat) (A : Option Addr) (n c : Nat) (left : Int) (w : World) (h0 : 0 ≤ left) (h1 : left ≤ 1099511627776) (h : Lies w (.l L) [.slice A n c]) (ht : ∀ x ∈ L, Has tyExport x) (hn : n ≤ 9223372036854775807) : Calls Try.prog 169 #[.slice A n c, .int .i64 left] w (GivesInt (leftD (Dat.l L) left) w) := by
  have hc : (Dat.l L).bulk = n := by rw [Dat.bulk, noneExport ht, h.count]; rfl
  have HC := Lib.hid hc
  clear h ht hc
  by_cases g0 : left - n < 0
  · go_enter Try.func169, Try.ntmps169
    go_wp2
    go_ret
    exact GivesInt.ret (leftD_no (by have := HC.out; omega)) (Below.refl _ _)
  · go_enter Try.func169, Try.ntmps169
    go_wp2
    go_ret
    exact GivesInt.ret (leftD_ok (by have := HC.out; omega) (by have := HC.out; omega)) (Below.refl _ _)
theorem noneQuestion {L : List Dat} (ht : ∀ x ∈ L, Has tyQuestion x) : bulkAll L = 0 := bulk_none (t := tyQuestion) rfl ht
set_option maxRecDepth 100000 in
set_option maxHeartbeats 4000000 in
theorem szQuestionS (L : List Dat) (A : Option Addr) (n c : Nat) (left : Int) (w : World) (h0 : 0 ≤ left) (h1 : left ≤ 1099511627776) (h : Lies w (.l L) [.slice A n c]) (ht : ∀ x ∈ L, Has tyQuestion x) (hn : n ≤ 9223372036854775807) : Calls Try.prog 170 #[.slice A n c, .int .i64 left] w (GivesInt (leftD (Dat.l L) left) w) := by
  have hc : (Dat.l L).bulk = n := by rw [Dat.bulk, noneQuestion ht, h.count]; rfl
  have HC := Lib.hid hc
  clear h ht hc
  by_cases g0 : left - n < 0
  · go_enter Try.func170, Try.ntmps170
    go_wp2
    go_ret
    exact GivesInt.ret (leftD_no (by have := HC.out; omega)) (Below.refl _ _)
  · go_enter Try.func170, Try.ntmps170
    go_wp2
    go_ret
    exact GivesInt.ret (leftD_ok (by have := HC.out; omega) (by have := HC.out; omega)) (Below.refl _ _)
set_option maxHeartbeats 4000000 in
theorem szLink (f0 : Int) (f1 : Bool) (L2 : List Dat) (A2 : Option Addr) (n2 c2 : Nat) (f3 : Int) (L4 : List Dat) (A4 : Option Addr) (n4 c4 : Nat) (f5 : Int) (L6 : List Dat) (A6 : Option Addr) (n6 c6 : Nat) (left : Int) (w : World) (h0 : 0 ≤ left) (h1 : left ≤ 1099511627776) (hl2 : Lies w (.l L2) [.slice A2 n2 c2]) (ht2 : ∀ x ∈ L2, Has tyExport x) (hm2 : n2 ≤ 9223372036854775807) (hl4 : Lies w (.l L4) [.slice A4 n4 c4]) (ht4 : ∀ x ∈ L4, Has tyQuestion x) (hm4 : n4 ≤ 9223372036854775807) (hl6 : Lies w (.l L6) [.slice A6 n6 c6]) (ht6 : ∀ x ∈ L6, Has tyQuestion x) (hm6 : n6 ≤ 9223372036854775807) : Calls Try.prog 148 #[.agg #[.int .i64 f0, .bool f1, .slice A2 n2 c2, .int .i64 f3, .slice A4 n4 c4, .int .i64 f5, .slice A6 n6 c6], .int .i64 left] w (GivesInt (leftD (.r [.i f0, .b f1, .l L2, .i f3, .l L4, .i f5, .l L6]) left) w) := by
  have HL2 := Lib.hid hl2
  have HT2 := Lib.hid ht2
  clear hl2 ht2
  have HL4 := Lib.hid hl4
  have HT4 := Lib.hid ht4
  clear hl4 ht4
  have HL6 := Lib.hid hl6
  have HT6 := Lib.hid ht6
  clear hl6 ht6
  have X := Lib.hid ((Held.start w).push #[.int .i64 f0, .bool f1, .slice A2 n2 c2, .int .i64 f3, .slice A4 n4 c4, .int .i64 f5, .slice A6 n6 c6] 190)
  go_enter Try.func148, Try.ntmps148
  go_wp2_with fail
  refine (szExportS L2 A2 n2 c2 (left) _ (by omega) (by omega) (HL2.out.below (X.out.1)) HT2.out hm2).mono ?_
  rintro e w1 ⟨rfl, hb⟩
  replace X := Lib.hid (X.out.below hb)
  clear hb
  by_cases g2 : left - (Dat.l L2).bulk < 0
  · rw [show leftD (Dat.l L2) (left) = -1 from if_pos g2]
    have hneg : Hid (left - (.r [.i f0, .b f1, .l L2, .i f3, .l L4, .i f5, .l L6] : Dat).bulk < 0) := Lib.hid (by simp only [Dat.bulk, bulkAll] at *; omega)
    go_wp2_with fail
    go_ret
    exact GivesInt.ret (leftD_no hneg.out) X.out.1
  · rw [show leftD (Dat.l L2) (left) = left - (Dat.l L2).bulk from if_neg g2]
    obtain ⟨r2, hr2⟩ : ∃ r, r = left - (Dat.l L2).bulk := ⟨_, rfl⟩
    rw [← hr2]
    have hp2 : 0 ≤ r2 := by omega
    have hu2 : r2 ≤ 1099511627776 := by omega
    have HR2 := Lib.hid hr2
    clear hr2 g2
    have x0 := X.out.at_ (g := w.heap.size) (i := 0) (v := .int .i64 f0) (cs := [.int .i64 f0, .bool f1, .slice A2 n2 c2, .int .i64 f3, .slice A4 n4 c4, .int .i64 f5, .slice A6 n6 c6]) (by repeat (first | exact List.mem_cons_self | refine List.mem_cons_of_mem _ ?_)) rfl
    have x1 := X.out.at_ (g := w.heap.size) (i := 1) (v := .bool f1) (cs := [.int .i64 f0, .bool f1, .slice A2 n2 c2, .int .i64 f3, .slice A4 n4 c4, .int .i64 f5, .slice A6 n6 c6]) (by repeat (first | exact List.mem_cons_self | refine List.mem_cons_of_mem _ ?_)) rfl
    have x2 := X.out.at_ (g := w.heap.size) (i := 2) (v := .slice A2 n2 c2) (cs := [.int .i64 f0, .bool f1, .slice A2 n2 c2, .int .i64 f3, .slice A4 n4 c4, .int .i64 f5, .slice A6 n6 c6]) (by repeat (first | exact List.mem_cons_self | refine List.mem_cons_of_mem _ ?_)) rfl
    have x3 := X.out.at_ (g := w.heap.size) (i := 3) (v := .int .i64 f3) (cs := [.int .i64 f0, .bool f1, .slice A2 n2 c2, .int .i64 f3, .slice A4 n4 c4, .int .i64 f5, .slice A6 n6 c6]) (by repeat (first | exact List.mem_cons_self | refine List.mem_cons_of_mem _ ?_)) rfl
    have x4 := X.out.at_ (g := w.heap.size) (i := 4) (v := .slice A4 n4 c4) (cs := [.int .i64 f0, .bool f1, .slice A2 n2 c2, .int .i64 f3, .slice A4 n4 c4, .int .i64 f5, .slice A6 n6 c6]) (by repeat (first | exact List.mem_cons_self | refine List.mem_cons_of_mem _ ?_)) rfl
    have x5 := X.out.at_ (g := w.heap.size) (i := 5) (v := .int .i64 f5) (cs := [.int .i64 f0, .bool f1, .slice A2 n2 c2, .int .i64 f3, .slice A4 n4 c4, .int .i64 f5, .slice A6 n6 c6]) (by repeat (first | exact List.mem_cons_self | refine List.mem_cons_of_mem _ ?_)) rfl
    have x6 := X.out.at_ (g := w.heap.size) (i := 6) (v := .slice A6 n6 c6) (cs := [.int .i64 f0, .bool f1, .slice A2 n2 c2, .int .i64 f3, .slice A4 n4 c4, .int .i64 f5, .slice A6 n6 c6]) (by repeat (first | exact List.mem_cons_self | refine List.mem_cons_of_mem _ ?_)) rfl
    go_wp2_with fail
    refine (szQuestionS L4 A4 n4 c4 (r2) _ (by omega) (by omega) (HL4.out.below (X.out.1)) HT4.out hm4).mono ?_
    rintro e w2 ⟨rfl, hb⟩
    clear x0 x1 x2 x3 x4 x5 x6
    replace X := Lib.hid (X.out.below hb)
    clear hb
    by_cases g4 : r2 - (Dat.l L4).bulk < 0
    · rw [show leftD (Dat.l L4) (r2) = -1 from if_pos g4]
      have hneg : Hid (left - (.r [.i f0, .b f1, .l L2, .i f3, .l L4, .i f5, .l L6] : Dat).bulk < 0) := Lib.hid (by have q0 := HR2.out; simp only [Dat.bulk, bulkAll] at *; omega)
      go_wp2_with fail
      go_ret
      exact GivesInt.ret (leftD_no hneg.out) X.out.1
    · rw [show leftD (Dat.l L4) (r2) = r2 - (Dat.l L4).bulk from if_neg g4]
      obtain ⟨r4, hr4⟩ : ∃ r, r = r2 - (Dat.l L4).bulk := ⟨_, rfl⟩
      rw [← hr4]
      have hp4 : 0 ≤ r4 := by omega
      have hu4 : r4 ≤ 1099511627776 := by omega
      have HR4 := Lib.hid hr4
      clear hr4 g4
      have x0 := X.out.at_ (g := w.heap.size) (i := 0) (v := .int .i64 f0) (cs := [.int .i64 f0, .bool f1, .slice A2 n2 c2, .int .i64 f3, .slice A4 n4 c4, .int .i64 f5, .slice A6 n6 c6]) (by repeat (first | exact List.mem_cons_self | refine List.mem_cons_of_mem _ ?_)) rfl
      have x1 := X.out.at_ (g := w.heap.size) (i := 1) (v := .bool f1) (cs := [.int .i64 f0, .bool f1, .slice A2 n2 c2, .int .i64 f3, .slice A4 n4 c4, .int .i64 f5, .slice A6 n6 c6]) (by repeat (first | exact List.mem_cons_self | refine List.mem_cons_of_mem _ ?_)) rfl
      have x2 := X.out.at_ (g := w.heap.size) (i := 2) (v := .slice A2 n2 c2) (cs := [.int .i64 f0, .bool f1, .slice A2 n2 c2, .int .i64 f3, .slice A4 n4 c4, .int .i64 f5, .slice A6 n6 c6]) (by repeat (first | exact List.mem_cons_self | refine List.mem_cons_of_mem _ ?_)) rfl
      have x3 := X.out.at_ (g := w.heap.size) (i := 3) (v := .int .i64 f3) (cs := [.int .i64 f0, .bool f1, .slice A2 n2 c2, .int .i64 f3, .slice A4 n4 c4, .int .i64 f5, .slice A6 n6 c6]) (by repeat (first | exact List.mem_cons_self | refine List.mem_cons_of_mem _ ?_)) rfl
      have x4 := X.out.at_ (g := w.heap.size) (i := 4) (v := .slice A4 n4 c4) (cs := [.int .i64 f0, .bool f1, .slice A2 n2 c2, .int .i64 f3, .slice A4 n4 c4, .int .i64 f5, .slice A6 n6 c6]) (by repeat (first | exact List.mem_cons_self | refine List.mem_cons_of_mem _ ?_)) rfl
      have x5 := X.out.at_ (g := w.heap.size) (i := 5) (v := .int .i64 f5) (cs := [.int .i64 f0, .bool f1, .slice A2 n2 c2, .int .i64 f3, .slice A4 n4 c4, .int .i64 f5, .slice A6 n6 c6]) (by repeat (first | exact List.mem_cons_self | refine List.mem_cons_of_mem _ ?_)) rfl
      have x6 := X.out.at_ (g := w.heap.size) (i := 6) (v := .slice A6 n6 c6) (cs := [.int .i64 f0, .bool f1, .slice A2 n2 c2, .int .i64 f3, .slice A4 n4 c4, .int .i64 f5, .slice A6 n6 c6]) (by repeat (first | exact List.mem_cons_self | refine List.mem_cons_of_mem _ ?_)) rfl
      go_wp2_with fail
      refine (szQuestionS L6 A6 n6 c6 (r4) _ (by omega) (by omega) (HL6.out.below (X.out.1)) HT6.out hm6).mono ?_
      rintro e w3 ⟨rfl, hb⟩
      clear x0 x1 x2 x3 x4 x5 x6
      replace X := Lib.hid (X.out.below hb)
      clear hb
      by_cases g6 : r4 - (Dat.l L6).bulk < 0
      · rw [show leftD (Dat.l L6) (r4) = -1 from if_pos g6]
        have hneg : Hid (left - (.r [.i f0, .b f1, .l L2, .i f3, .l L4, .i f5, .l L6] : Dat).bulk < 0) := Lib.hid (by have q0 := HR2.out; have q1 := HR4.out; simp only [Dat.bulk, bulkAll] at *; omega)
        go_wp2_with fail
        go_ret
        exact GivesInt.ret (leftD_no hneg.out) X.out.1
      · rw [show leftD (Dat.l L6) (r4) = r4 - (Dat.l L6).bulk from if_neg g6]
        obtain ⟨r6, hr6⟩ : ∃ r, r = r4 - (Dat.l L6).bulk := ⟨_, rfl⟩
        rw [← hr6]
        have hp6 : 0 ≤ r6 := by omega
        have hu6 : r6 ≤ 1099511627776 := by omega
        have HR6 := Lib.hid hr6
        clear hr6 g6
        have hend : Hid (r6 = leftD (.r [.i f0, .b f1, .l L2, .i f3, .l L4, .i f5, .l L6]) left) := Lib.hid (leftD_ok (by have q0 := HR2.out; have q1 := HR4.out; have q2 := HR6.out; simp only [Dat.bulk, bulkAll] at *; omega) (by have q0 := HR2.out; have q1 := HR4.out; have q2 := HR6.out; simp only [Dat.bulk, bulkAll] at *; omega))
        go_wp2_with fail
        go_ret
        exact GivesInt.ret hend.out X.out.1
end Go.Proofs.Ytmeacgpebpfpbaa
end
section
namespace Go.Proofs.Ytmeacgpebpfpbaa
open Go.RowKit
set_option linter.unusedVariables false
set_option linter.unusedSimpArgs false
theorem noneWire {L : List Dat} (ht : ∀ x ∈ L, Has tyWire x) : bulkAll L = 0 := bulk_none (t := tyWire) rfl ht
set_option maxRecDepth 100000 in
set_option maxHeartbeats 4000000 in
theorem szWireS (L : List Dat) (A : Option Addr) (n c : Nat) (left : Int) (w : World) (h0 : 0 ≤ left) (h1 : left ≤ 1099511627776) (h : Lies w (.l L) [.slice A n c]) (ht : ∀ x ∈ L, Has tyWire x) (hn : n ≤ 9223372036854775807) : Calls Try.prog 183 #[.slice A n c, .int .i64 left] w (GivesInt (leftD (Dat.l L) left) w) := by
  have hc : (Dat.l L).bulk = n := by rw [Dat.bulk, noneWire ht, h.count]; rfl
  have HC := Lib.hid hc
  clear h ht hc
  by_cases g0 : left - n < 0
  · go_enter Try.func183, Try.ntmps183
    go_wp2
    go_ret
    exact GivesInt.ret (leftD_no (by have := HC.out; omega)) (Below.refl _ _)
  · go_enter Try.func183, Try.ntmps183
    go_wp2
    go_ret
    exact GivesInt.ret (leftD_ok (by have := HC.out; omega) (by have := HC.out; omega)) (Below.refl _ _)
set_option maxHeartbeats 4000000 in
theorem szMessage (f0 : Int) (f1 : Int) (f2 : Int) (f3 : Int) (f4 : ByteArray) (L5 : List Dat) (A5 : Option Addr) (n5 c5 : Nat) (f6_0 : Int) (f6_1 : Int) (f7 : Int) (f8_0 : Int) (f8_1 : Int) (f8_2 : Int) (left : Int) (w : World) (h0 : 0 ≤ left) (h1 : left ≤ 1099511627776) (hf4 : f4.size ≤ 9223372036854775807) (hl5 : Lies w (.l L5) [.slice A5 n5 c5]) (ht5 : ∀ x ∈ L5, Has tyWire x) (hm5 : n5 ≤ 9223372036854775807) : Calls Try.prog 171 #[.agg #[.int .i64 f0, .int .i64 f1, .int .i64 f2, .int .i64 f3, .string f4, .slice A5 n5 c5, .int .i64 f6_0, .int .i64 f6_1, .int .i64 f7, .int .i64 f8_0, .int .i64 f8_1, .int .i64 f8_2], .int .i64 left] w (GivesInt (leftD (.r [.i f0, .i f1, .i f2, .i f3, .s f4, .l L5, .r [.i f6_0, .i f6_1], .i f7, .r [.i f8_0, .i f8_1, .i f8_2]]) left) w) := by
  have HL5 := Lib.hid hl5
  have HT5 := Lib.hid ht5
  clear hl5 ht5
  have X := Lib.hid ((Held.start w).push #[.int .i64 f0, .int .i64 f1, .int .i64 f2, .int .i64 f3, .string f4, .slice A5 n5 c5, .int .i64 f6_0, .int .i64 f6_1, .int .i64 f7, .int .i64 f8_0, .int .i64 f8_1, .int .i64 f8_2] 195)
  go_enter Try.func171, Try.ntmps171
  by_cases g4 : left - f4.size < 0
  · go_wp2_with fail
    go_ret
    exact GivesInt.ret (leftD_no (by simp only [Dat.bulk, bulkAll] at *; omega)) X.out.1
  · skip
    go_wp2_with fail
    refine (szWireS L5 A5 n5 c5 (left - f4.size) _ (by omega) (by omega) (HL5.out.below (X.out.1)) HT5.out hm5).mono ?_
    rintro e w1 ⟨rfl, hb⟩
    replace X := Lib.hid (X.out.below hb)
    clear hb
    by_cases g5 : left - f4.size - (Dat.l L5).bulk < 0
    · rw [show leftD (Dat.l L5) (left - f4.size) = -1 from if_pos g5]
      have hneg : Hid (left - (.r [.i f0, .i f1, .i f2, .i f3, .s f4, .l L5, .r [.i f6_0, .i f6_1], .i f7, .r [.i f8_0, .i f8_1, .i f8_2]] : Dat).bulk < 0) := Lib.hid (by simp only [Dat.bulk, bulkAll] at *; omega)
      go_wp2_with fail
      go_ret
      exact GivesInt.ret (leftD_no hneg.out) X.out.1
    · rw [show leftD (Dat.l L5) (left - f4.size) = left - f4.size - (Dat.l L5).bulk from if_neg g5]
      obtain ⟨r5, hr5⟩ : ∃ r, r = left - f4.size - (Dat.l L5).bulk := ⟨_, rfl⟩
      rw [← hr5]
      have hp5 : 0 ≤ r5 := by omega
      have hu5 : r5 ≤ 1099511627776 := by omega
      have HR5 := Lib.hid hr5
      clear hr5 g5
      have hend : Hid (r5 = leftD (.r [.i f0, .i f1, .i f2, .i f3, .s f4, .l L5, .r [.i f6_0, .i f6_1], .i f7, .r [.i f8_0, .i f8_1, .i f8_2]]) left) := Lib.hid (leftD_ok (by have q0 := HR5.out; simp only [Dat.bulk, bulkAll] at *; omega) (by have q0 := HR5.out; simp only [Dat.bulk, bulkAll] at *; omega))
      go_wp2_with fail
      go_ret
      exact GivesInt.ret hend.out X.out.1
end Go.Proofs.Ytmeacgpebpfpbaa
end
section
namespace Go.Proofs.Ytmeacgpebpfpbaa
open Go.RowKit
set_option linter.unusedVariables false
set_option linter.unusedSimpArgs false
set_option maxRecDepth 100000 in
set_option maxHeartbeats 4000000 in
theorem szEntityS (L : List Dat) (A : Option Addr) (n c : Nat) (left : Int) (w : World) (h0 : 0 ≤ left) (h1 : left ≤ 1099511627776) (h : Lies w (.l L) [.slice A n c]) (ht : ∀ x ∈ L, Has tyEntity x) (hn : n ≤ 9223372036854775807) : Calls Try.prog 85 #[.slice A n c, .int .i64 left] w (GivesInt (leftD (Dat.l L) left) w) := by
  have H := Lib.hid h
  have HT := Lib.hid ht
  have hc := h.count
  have HC := Lib.hid hc
  clear h ht hc
  by_cases g0 : left - n < 0
  · go_enter Try.func85, Try.ntmps85
    go_wp2
    go_ret
    exact GivesInt.ret (leftD_no (by have := HC.out; simp only [Dat.bulk]; omega)) (Below.refl _ _)
  · go_enter Try.func85, Try.ntmps85
    go_wp2
    go_loopw [1, 5] (fun lv iv wr => ∃ (i : Nat) (r : Int), i ≤ n ∧ iv = .int .i64 i ∧ lv = .int .i64 r ∧ r = left - n - bulkAll (L.take i) ∧ 0 ≤ r ∧ r ≤ left ∧ Below w.heap.size w wr) (fun _ iv _ => n - (intOf iv).toNat)
    case atStart => exact ⟨0, left - n, Nat.zero_le _, rfl, rfl, by simp [bulkAll], by omega, by omega, Below.refl _ _⟩
    case round =>
      obtain ⟨i, r, hin, rfl, rfl, hr, hr0, hr1, hb⟩ := hrel
      have HR := Lib.hid hr
      clear hr
      by_cases hlt : i < n
      · obtain ⟨b, off, d, xs, rfl, hbw, hzi, hlie, hlen, hcell⟩ := (H.out.below hb).elem (fun x hx => (HT.out x hx).width) hlt
        obtain ⟨f0, f1, L2, A2, n2, c2, f3, f4_0, f4_1, L5, A5, n5, c5, L6, A6, n6, c6, f7, f8, f9, f10, rfl, rfl, hl2, ht2, hm2, hl5, ht5, hm5, hl6, ht6, hm6⟩ := invEntity (HT.out d (List.mem_of_getElem? hzi)) hlie
        have r0 : wr.cell? ⟨b, off + i * 12, none⟩ = some (.int .i64 f0) := hcell 0 _ rfl
        have r1 : wr.cell? ⟨b, off + i * 12 + 1, none⟩ = some (.int .i64 f1) := hcell 1 _ rfl
        have r2 : wr.cell? ⟨b, off + i * 12 + 2, none⟩ = some (.slice A2 n2 c2) := hcell 2 _ rfl
        have r3 : wr.cell? ⟨b, off + i * 12 + 3, none⟩ = some (.int .i64 f3) := hcell 3 _ rfl
        have r4 : wr.cell? ⟨b, off + i * 12 + 4, none⟩ = some (.int .i64 f4_0) := hcell 4 _ rfl
        have r5 : wr.cell? ⟨b, off + i * 12 + 5, none⟩ = some (.int .i64 f4_1) := hcell 5 _ rfl
        have r6 : wr.cell? ⟨b, off + i * 12 + 6, none⟩ = some (.slice A5 n5 c5) := hcell 6 _ rfl
        have r7 : wr.cell? ⟨b, off + i * 12 + 7, none⟩ = some (.slice A6 n6 c6) := hcell 7 _ rfl
        have r8 : wr.cell? ⟨b, off + i * 12 + 8, none⟩ = some (.int .i64 f7) := hcell 8 _ rfl
        have r9 : wr.cell? ⟨b, off + i * 12 + 9, none⟩ = some (.int .i64 f8) := hcell 9 _ rfl
        have r10 : wr.cell? ⟨b, off + i * 12 + 10, none⟩ = some (.int .i64 f9) := hcell 10 _ rfl
        have r11 : wr.cell? ⟨b, off + i * 12 + 11, none⟩ = some (.int .i64 f10) := hcell 11 _ rfl
        have HZ := Lib.hid (bulk_next hzi)
        have HM := Lib.hid (bulk_take_le L (i + 1))
        have HBR := Lib.hid hb
        clear hzi hb hcell hlie
        go_wp2_with fail
        refine (szEntity f0 f1 L2 A2 n2 c2 f3 f4_0 f4_1 L5 A5 n5 c5 L6 A6 n6 c6 f7 f8 f9 f10 r _ hr0 (by omega) hl2 ht2 hm2 hl5 ht5 hm5 hl6 ht6 hm6).mono ?_
        rintro e w2 ⟨rfl, hb2⟩
        have HB2 := Lib.hid (HBR.out.trans (hb2.mono HBR.out.size))
        clear hb2 hl2 ht2 hl5 ht5 hl6 ht6
        by_cases g1 : r - (.r [.i f0, .i f1, .l L2, .i f3, .r [.i f4_0, .i f4_1], .l L5, .l L6, .i f7, .i f8, .i f9, .i f10] : Dat).bulk < 0
        · rw [show leftD (.r [.i f0, .i f1, .l L2, .i f3, .r [.i f4_0, .i f4_1], .l L5, .l L6, .i f7, .i f8, .i f9, .i f10]) r = -1 from if_pos g1]
          have hneg : left - (Dat.l L).bulk < 0 := by have h1 := HZ.out; have h2 := HM.out; have h3 := HC.out; have h4 := HR.out; rw [Dat.bulk]; omega
          go_wp2_with fail
          go_ret
          exact GivesInt.ret (leftD_no hneg) HB2.out
        · rw [show leftD (.r [.i f0, .i f1, .l L2, .i f3, .r [.i f4_0, .i f4_1], .l L5, .l L6, .i f7, .i f8, .i f9, .i f10]) r = r - (.r [.i f0, .i f1, .l L2, .i f3, .r [.i f4_0, .i f4_1], .l L5, .l L6, .i f7, .i f8, .i f9, .i f10] : Dat).bulk from if_neg g1]
          have HE : Hid (r - (.r [.i f0, .i f1, .l L2, .i f3, .r [.i f4_0, .i f4_1], .l L5, .l L6, .i f7, .i f8, .i f9, .i f10] : Dat).bulk = left - n - bulkAll (L.take (i + 1))) := Lib.hid (by have h1 := HZ.out; have h4 := HR.out; omega)
          have hp0 : 0 ≤ r - (.r [.i f0, .i f1, .l L2, .i f3, .r [.i f4_0, .i f4_1], .l L5, .l L6, .i f7, .i f8, .i f9, .i f10] : Dat).bulk := by omega
          have hp1 : r - (.r [.i f0, .i f1, .l L2, .i f3, .r [.i f4_0, .i f4_1], .l L5, .l L6, .i f7, .i f8, .i f9, .i f10] : Dat).bulk ≤ left := by omega
          generalize r - (.r [.i f0, .i f1, .l L2, .i f3, .r [.i f4_0, .i f4_1], .l L5, .l L6, .i f7, .i f8, .i f9, .i f10] : Dat).bulk = rr at *
          go_wp2_with fail
          go_roundw
          case rel => exact ⟨i + 1, rr, by omega, by go_num, rfl, HE.out, hp0, hp1, HB2.out⟩
          case measure => simp [intOf]; omega
      · obtain rfl : i = n := by omega
        have HBR := Lib.hid hb
        clear hb
        have hE : r = leftD (Dat.l L) left := by
          have h4 := HR.out
          have h3 := HC.out
          rw [List.take_of_length_le (by omega)] at h4
          rw [leftD, if_neg (by rw [Dat.bulk]; omega), Dat.bulk]
          omega
        have HE := Lib.hid hE
        clear hE
        go_wp2_with fail
        go_ret
        exact GivesInt.ret HE.out HBR.out
set_option maxRecDepth 100000 in
set_option maxHeartbeats 4000000 in
theorem szLinkS (L : List Dat) (A : Option Addr) (n c : Nat) (left : Int) (w : World) (h0 : 0 ≤ left) (h1 : left ≤ 1099511627776) (h : Lies w (.l L) [.slice A n c]) (ht : ∀ x ∈ L, Has tyLink x) (hn : n ≤ 9223372036854775807) : Calls Try.prog 87 #[.slice A n c, .int .i64 left] w (GivesInt (leftD (Dat.l L) left) w) := by
  have H := Lib.hid h
  have HT := Lib.hid ht
  have hc := h.count
  have HC := Lib.hid hc
  clear h ht hc
  by_cases g0 : left - n < 0
  · go_enter Try.func87, Try.ntmps87
    go_wp2
    go_ret
    exact GivesInt.ret (leftD_no (by have := HC.out; simp only [Dat.bulk]; omega)) (Below.refl _ _)
  · go_enter Try.func87, Try.ntmps87
    go_wp2
    go_loopw [1, 5] (fun lv iv wr => ∃ (i : Nat) (r : Int), i ≤ n ∧ iv = .int .i64 i ∧ lv = .int .i64 r ∧ r = left - n - bulkAll (L.take i) ∧ 0 ≤ r ∧ r ≤ left ∧ Below w.heap.size w wr) (fun _ iv _ => n - (intOf iv).toNat)
    case atStart => exact ⟨0, left - n, Nat.zero_le _, rfl, rfl, by simp [bulkAll], by omega, by omega, Below.refl _ _⟩
    case round =>
      obtain ⟨i, r, hin, rfl, rfl, hr, hr0, hr1, hb⟩ := hrel
      have HR := Lib.hid hr
      clear hr
      by_cases hlt : i < n
      · obtain ⟨b, off, d, xs, rfl, hbw, hzi, hlie, hlen, hcell⟩ := (H.out.below hb).elem (fun x hx => (HT.out x hx).width) hlt
        obtain ⟨f0, f1, L2, A2, n2, c2, f3, L4, A4, n4, c4, f5, L6, A6, n6, c6, rfl, rfl, hl2, ht2, hm2, hl4, ht4, hm4, hl6, ht6, hm6⟩ := invLink (HT.out d (List.mem_of_getElem? hzi)) hlie
        have r0 : wr.cell? ⟨b, off + i * 7, none⟩ = some (.int .i64 f0) := hcell 0 _ rfl
        have r1 : wr.cell? ⟨b, off + i * 7 + 1, none⟩ = some (.bool f1) := hcell 1 _ rfl
        have r2 : wr.cell? ⟨b, off + i * 7 + 2, none⟩ = some (.slice A2 n2 c2) := hcell 2 _ rfl
        have r3 : wr.cell? ⟨b, off + i * 7 + 3, none⟩ = some (.int .i64 f3) := hcell 3 _ rfl
        have r4 : wr.cell? ⟨b, off + i * 7 + 4, none⟩ = some (.slice A4 n4 c4) := hcell 4 _ rfl
        have r5 : wr.cell? ⟨b, off + i * 7 + 5, none⟩ = some (.int .i64 f5) := hcell 5 _ rfl
        have r6 : wr.cell? ⟨b, off + i * 7 + 6, none⟩ = some (.slice A6 n6 c6) := hcell 6 _ rfl
        have HZ := Lib.hid (bulk_next hzi)
        have HM := Lib.hid (bulk_take_le L (i + 1))
        have HBR := Lib.hid hb
        clear hzi hb hcell hlie
        go_wp2_with fail
        refine (szLink f0 f1 L2 A2 n2 c2 f3 L4 A4 n4 c4 f5 L6 A6 n6 c6 r _ hr0 (by omega) hl2 ht2 hm2 hl4 ht4 hm4 hl6 ht6 hm6).mono ?_
        rintro e w2 ⟨rfl, hb2⟩
        have HB2 := Lib.hid (HBR.out.trans (hb2.mono HBR.out.size))
        clear hb2 hl2 ht2 hl4 ht4 hl6 ht6
        by_cases g1 : r - (.r [.i f0, .b f1, .l L2, .i f3, .l L4, .i f5, .l L6] : Dat).bulk < 0
        · rw [show leftD (.r [.i f0, .b f1, .l L2, .i f3, .l L4, .i f5, .l L6]) r = -1 from if_pos g1]
          have hneg : left - (Dat.l L).bulk < 0 := by have h1 := HZ.out; have h2 := HM.out; have h3 := HC.out; have h4 := HR.out; rw [Dat.bulk]; omega
          go_wp2_with fail
          go_ret
          exact GivesInt.ret (leftD_no hneg) HB2.out
        · rw [show leftD (.r [.i f0, .b f1, .l L2, .i f3, .l L4, .i f5, .l L6]) r = r - (.r [.i f0, .b f1, .l L2, .i f3, .l L4, .i f5, .l L6] : Dat).bulk from if_neg g1]
          have HE : Hid (r - (.r [.i f0, .b f1, .l L2, .i f3, .l L4, .i f5, .l L6] : Dat).bulk = left - n - bulkAll (L.take (i + 1))) := Lib.hid (by have h1 := HZ.out; have h4 := HR.out; omega)
          have hp0 : 0 ≤ r - (.r [.i f0, .b f1, .l L2, .i f3, .l L4, .i f5, .l L6] : Dat).bulk := by omega
          have hp1 : r - (.r [.i f0, .b f1, .l L2, .i f3, .l L4, .i f5, .l L6] : Dat).bulk ≤ left := by omega
          generalize r - (.r [.i f0, .b f1, .l L2, .i f3, .l L4, .i f5, .l L6] : Dat).bulk = rr at *
          go_wp2_with fail
          go_roundw
          case rel => exact ⟨i + 1, rr, by omega, by go_num, rfl, HE.out, hp0, hp1, HB2.out⟩
          case measure => simp [intOf]; omega
      · obtain rfl : i = n := by omega
        have HBR := Lib.hid hb
        clear hb
        have hE : r = leftD (Dat.l L) left := by
          have h4 := HR.out
          have h3 := HC.out
          rw [List.take_of_length_le (by omega)] at h4
          rw [leftD, if_neg (by rw [Dat.bulk]; omega), Dat.bulk]
          omega
        have HE := Lib.hid hE
        clear hE
        go_wp2_with fail
        go_ret
        exact GivesInt.ret HE.out HBR.out
set_option maxHeartbeats 4000000 in
theorem szOutgoing (f0 : Int) (f1_0 : Int) (f1_1 : Int) (f1_2 : Int) (f1_3 : Int) (f1_4 : ByteArray) (L1_5 : List Dat) (A1_5 : Option Addr) (n1_5 c1_5 : Nat) (f1_6_0 : Int) (f1_6_1 : Int) (f1_7 : Int) (f1_8_0 : Int) (f1_8_1 : Int) (f1_8_2 : Int) (left : Int) (w : World) (h0 : 0 ≤ left) (h1 : left ≤ 1099511627776) (hf1_4 : f1_4.size ≤ 9223372036854775807) (hl1_5 : Lies w (.l L1_5) [.slice A1_5 n1_5 c1_5]) (ht1_5 : ∀ x ∈ L1_5, Has tyWire x) (hm1_5 : n1_5 ≤ 9223372036854775807) : Calls Try.prog 149 #[.agg #[.int .i64 f0, .int .i64 f1_0, .int .i64 f1_1, .int .i64 f1_2, .int .i64 f1_3, .string f1_4, .slice A1_5 n1_5 c1_5, .int .i64 f1_6_0, .int .i64 f1_6_1, .int .i64 f1_7, .int .i64 f1_8_0, .int .i64 f1_8_1, .int .i64 f1_8_2], .int .i64 left] w (GivesInt (leftD (.r [.i f0, .r [.i f1_0, .i f1_1, .i f1_2, .i f1_3, .s f1_4, .l L1_5, .r [.i f1_6_0, .i f1_6_1], .i f1_7, .r [.i f1_8_0, .i f1_8_1, .i f1_8_2]]]) left) w) := by
  have HL1_5 := Lib.hid hl1_5
  have HT1_5 := Lib.hid ht1_5
  clear hl1_5 ht1_5
  have X := Lib.hid ((Held.start w).push #[.int .i64 f0, .int .i64 f1_0, .int .i64 f1_1, .int .i64 f1_2, .int .i64 f1_3, .string f1_4, .slice A1_5 n1_5 c1_5, .int .i64 f1_6_0, .int .i64 f1_6_1, .int .i64 f1_7, .int .i64 f1_8_0, .int .i64 f1_8_1, .int .i64 f1_8_2] 197)
  go_enter Try.func149, Try.ntmps149
  go_wp2_with fail
  refine (szMessage f1_0 f1_1 f1_2 f1_3 f1_4 L1_5 A1_5 n1_5 c1_5 f1_6_0 f1_6_1 f1_7 f1_8_0 f1_8_1 f1_8_2 (left) _ (by omega) (by omega) hf1_4 (HL1_5.out.below (X.out.1)) HT1_5.out hm1_5).mono ?_
  rintro e w1 ⟨rfl, hb⟩
  replace X := Lib.hid (X.out.below hb)
  clear hb
  by_cases g1 : left - (.r [.i f1_0, .i f1_1, .i f1_2, .i f1_3, .s f1_4, .l L1_5, .r [.i f1_6_0, .i f1_6_1], .i f1_7, .r [.i f1_8_0, .i f1_8_1, .i f1_8_2]] : Dat).bulk < 0
  · rw [show leftD (.r [.i f1_0, .i f1_1, .i f1_2, .i f1_3, .s f1_4, .l L1_5, .r [.i f1_6_0, .i f1_6_1], .i f1_7, .r [.i f1_8_0, .i f1_8_1, .i f1_8_2]] : Dat) (left) = -1 from if_pos g1]
    have hneg : Hid (left - (.r [.i f0, .r [.i f1_0, .i f1_1, .i f1_2, .i f1_3, .s f1_4, .l L1_5, .r [.i f1_6_0, .i f1_6_1], .i f1_7, .r [.i f1_8_0, .i f1_8_1, .i f1_8_2]]] : Dat).bulk < 0) := Lib.hid (by simp only [Dat.bulk, bulkAll] at *; omega)
    go_wp2_with fail
    go_ret
    exact GivesInt.ret (leftD_no hneg.out) X.out.1
  · rw [show leftD (.r [.i f1_0, .i f1_1, .i f1_2, .i f1_3, .s f1_4, .l L1_5, .r [.i f1_6_0, .i f1_6_1], .i f1_7, .r [.i f1_8_0, .i f1_8_1, .i f1_8_2]] : Dat) (left) = left - (.r [.i f1_0, .i f1_1, .i f1_2, .i f1_3, .s f1_4, .l L1_5, .r [.i f1_6_0, .i f1_6_1], .i f1_7, .r [.i f1_8_0, .i f1_8_1, .i f1_8_2]] : Dat).bulk from if_neg g1]
    obtain ⟨r1, hr1⟩ : ∃ r, r = left - (.r [.i f1_0, .i f1_1, .i f1_2, .i f1_3, .s f1_4, .l L1_5, .r [.i f1_6_0, .i f1_6_1], .i f1_7, .r [.i f1_8_0, .i f1_8_1, .i f1_8_2]] : Dat).bulk := ⟨_, rfl⟩
    rw [← hr1]
    have hp1 : 0 ≤ r1 := by omega
    have hu1 : r1 ≤ 1099511627776 := by omega
    have HR1 := Lib.hid hr1
    clear hr1 g1
    have hend : Hid (r1 = leftD (.r [.i f0, .r [.i f1_0, .i f1_1, .i f1_2, .i f1_3, .s f1_4, .l L1_5, .r [.i f1_6_0, .i f1_6_1], .i f1_7, .r [.i f1_8_0, .i f1_8_1, .i f1_8_2]]]) left) := Lib.hid (leftD_ok (by have q0 := HR1.out; simp only [Dat.bulk, bulkAll] at *; omega) (by have q0 := HR1.out; simp only [Dat.bulk, bulkAll] at *; omega))
    go_wp2_with fail
    go_ret
    exact GivesInt.ret hend.out X.out.1
set_option maxRecDepth 100000 in
set_option maxHeartbeats 4000000 in
theorem szOutgoingS (L : List Dat) (A : Option Addr) (n c : Nat) (left : Int) (w : World) (h0 : 0 ≤ left) (h1 : left ≤ 1099511627776) (h : Lies w (.l L) [.slice A n c]) (ht : ∀ x ∈ L, Has tyOutgoing x) (hn : n ≤ 9223372036854775807) : Calls Try.prog 88 #[.slice A n c, .int .i64 left] w (GivesInt (leftD (Dat.l L) left) w) := by
  have H := Lib.hid h
  have HT := Lib.hid ht
  have hc := h.count
  have HC := Lib.hid hc
  clear h ht hc
  by_cases g0 : left - n < 0
  · go_enter Try.func88, Try.ntmps88
    go_wp2
    go_ret
    exact GivesInt.ret (leftD_no (by have := HC.out; simp only [Dat.bulk]; omega)) (Below.refl _ _)
  · go_enter Try.func88, Try.ntmps88
    go_wp2
    go_loopw [1, 5] (fun lv iv wr => ∃ (i : Nat) (r : Int), i ≤ n ∧ iv = .int .i64 i ∧ lv = .int .i64 r ∧ r = left - n - bulkAll (L.take i) ∧ 0 ≤ r ∧ r ≤ left ∧ Below w.heap.size w wr) (fun _ iv _ => n - (intOf iv).toNat)
    case atStart => exact ⟨0, left - n, Nat.zero_le _, rfl, rfl, by simp [bulkAll], by omega, by omega, Below.refl _ _⟩
    case round =>
      obtain ⟨i, r, hin, rfl, rfl, hr, hr0, hr1, hb⟩ := hrel
      have HR := Lib.hid hr
      clear hr
      by_cases hlt : i < n
      · obtain ⟨b, off, d, xs, rfl, hbw, hzi, hlie, hlen, hcell⟩ := (H.out.below hb).elem (fun x hx => (HT.out x hx).width) hlt
        obtain ⟨f0, f1_0, f1_1, f1_2, f1_3, f1_4, L1_5, A1_5, n1_5, c1_5, f1_6_0, f1_6_1, f1_7, f1_8_0, f1_8_1, f1_8_2, rfl, rfl, hf1_4, hl1_5, ht1_5, hm1_5⟩ := invOutgoing (HT.out d (List.mem_of_getElem? hzi)) hlie
        have r0 : wr.cell? ⟨b, off + i * 13, none⟩ = some (.int .i64 f0) := hcell 0 _ rfl
        have r1 : wr.cell? ⟨b, off + i * 13 + 1, none⟩ = some (.int .i64 f1_0) := hcell 1 _ rfl
        have r2 : wr.cell? ⟨b, off + i * 13 + 2, none⟩ = some (.int .i64 f1_1) := hcell 2 _ rfl
        have r3 : wr.cell? ⟨b, off + i * 13 + 3, none⟩ = some (.int .i64 f1_2) := hcell 3 _ rfl
        have r4 : wr.cell? ⟨b, off + i * 13 + 4, none⟩ = some (.int .i64 f1_3) := hcell 4 _ rfl
        have r5 : wr.cell? ⟨b, off + i * 13 + 5, none⟩ = some (.string f1_4) := hcell 5 _ rfl
        have r6 : wr.cell? ⟨b, off + i * 13 + 6, none⟩ = some (.slice A1_5 n1_5 c1_5) := hcell 6 _ rfl
        have r7 : wr.cell? ⟨b, off + i * 13 + 7, none⟩ = some (.int .i64 f1_6_0) := hcell 7 _ rfl
        have r8 : wr.cell? ⟨b, off + i * 13 + 8, none⟩ = some (.int .i64 f1_6_1) := hcell 8 _ rfl
        have r9 : wr.cell? ⟨b, off + i * 13 + 9, none⟩ = some (.int .i64 f1_7) := hcell 9 _ rfl
        have r10 : wr.cell? ⟨b, off + i * 13 + 10, none⟩ = some (.int .i64 f1_8_0) := hcell 10 _ rfl
        have r11 : wr.cell? ⟨b, off + i * 13 + 11, none⟩ = some (.int .i64 f1_8_1) := hcell 11 _ rfl
        have r12 : wr.cell? ⟨b, off + i * 13 + 12, none⟩ = some (.int .i64 f1_8_2) := hcell 12 _ rfl
        have HZ := Lib.hid (bulk_next hzi)
        have HM := Lib.hid (bulk_take_le L (i + 1))
        have HBR := Lib.hid hb
        clear hzi hb hcell hlie
        go_wp2_with fail
        refine (szOutgoing f0 f1_0 f1_1 f1_2 f1_3 f1_4 L1_5 A1_5 n1_5 c1_5 f1_6_0 f1_6_1 f1_7 f1_8_0 f1_8_1 f1_8_2 r _ hr0 (by omega) hf1_4 hl1_5 ht1_5 hm1_5).mono ?_
        rintro e w2 ⟨rfl, hb2⟩
        have HB2 := Lib.hid (HBR.out.trans (hb2.mono HBR.out.size))
        clear hb2 hl1_5 ht1_5
        by_cases g1 : r - (.r [.i f0, .r [.i f1_0, .i f1_1, .i f1_2, .i f1_3, .s f1_4, .l L1_5, .r [.i f1_6_0, .i f1_6_1], .i f1_7, .r [.i f1_8_0, .i f1_8_1, .i f1_8_2]]] : Dat).bulk < 0
        · rw [show leftD (.r [.i f0, .r [.i f1_0, .i f1_1, .i f1_2, .i f1_3, .s f1_4, .l L1_5, .r [.i f1_6_0, .i f1_6_1], .i f1_7, .r [.i f1_8_0, .i f1_8_1, .i f1_8_2]]]) r = -1 from if_pos g1]
          have hneg : left - (Dat.l L).bulk < 0 := by have h1 := HZ.out; have h2 := HM.out; have h3 := HC.out; have h4 := HR.out; rw [Dat.bulk]; omega
          go_wp2_with fail
          go_ret
          exact GivesInt.ret (leftD_no hneg) HB2.out
        · rw [show leftD (.r [.i f0, .r [.i f1_0, .i f1_1, .i f1_2, .i f1_3, .s f1_4, .l L1_5, .r [.i f1_6_0, .i f1_6_1], .i f1_7, .r [.i f1_8_0, .i f1_8_1, .i f1_8_2]]]) r = r - (.r [.i f0, .r [.i f1_0, .i f1_1, .i f1_2, .i f1_3, .s f1_4, .l L1_5, .r [.i f1_6_0, .i f1_6_1], .i f1_7, .r [.i f1_8_0, .i f1_8_1, .i f1_8_2]]] : Dat).bulk from if_neg g1]
          have HE : Hid (r - (.r [.i f0, .r [.i f1_0, .i f1_1, .i f1_2, .i f1_3, .s f1_4, .l L1_5, .r [.i f1_6_0, .i f1_6_1], .i f1_7, .r [.i f1_8_0, .i f1_8_1, .i f1_8_2]]] : Dat).bulk = left - n - bulkAll (L.take (i + 1))) := Lib.hid (by have h1 := HZ.out; have h4 := HR.out; omega)
          have hp0 : 0 ≤ r - (.r [.i f0, .r [.i f1_0, .i f1_1, .i f1_2, .i f1_3, .s f1_4, .l L1_5, .r [.i f1_6_0, .i f1_6_1], .i f1_7, .r [.i f1_8_0, .i f1_8_1, .i f1_8_2]]] : Dat).bulk := by omega
          have hp1 : r - (.r [.i f0, .r [.i f1_0, .i f1_1, .i f1_2, .i f1_3, .s f1_4, .l L1_5, .r [.i f1_6_0, .i f1_6_1], .i f1_7, .r [.i f1_8_0, .i f1_8_1, .i f1_8_2]]] : Dat).bulk ≤ left := by omega
          generalize r - (.r [.i f0, .r [.i f1_0, .i f1_1, .i f1_2, .i f1_3, .s f1_4, .l L1_5, .r [.i f1_6_0, .i f1_6_1], .i f1_7, .r [.i f1_8_0, .i f1_8_1, .i f1_8_2]]] : Dat).bulk = rr at *
          go_wp2_with fail
          go_roundw
          case rel => exact ⟨i + 1, rr, by omega, by go_num, rfl, HE.out, hp0, hp1, HB2.out⟩
          case measure => simp [intOf]; omega
      · obtain rfl : i = n := by omega
        have HBR := Lib.hid hb
        clear hb
        have hE : r = leftD (Dat.l L) left := by
          have h4 := HR.out
          have h3 := HC.out
          rw [List.take_of_length_le (by omega)] at h4
          rw [leftD, if_neg (by rw [Dat.bulk]; omega), Dat.bulk]
          omega
        have HE := Lib.hid hE
        clear hE
        go_wp2_with fail
        go_ret
        exact GivesInt.ret HE.out HBR.out
end Go.Proofs.Ytmeacgpebpfpbaa
end
section
namespace Go.Proofs.Ytmeacgpebpfpbaa
open Go.RowKit
set_option linter.unusedVariables false
set_option linter.unusedSimpArgs false
set_option maxHeartbeats 4000000 in
theorem szVat (f0 : Int) (L1 : List Dat) (A1 : Option Addr) (n1 c1 : Nat) (L2 : List Dat) (A2 : Option Addr) (n2 c2 : Nat) (L3 : List Dat) (A3 : Option Addr) (n3 c3 : Nat) (L4 : List Dat) (A4 : Option Addr) (n4 c4 : Nat) (left : Int) (w : World) (h0 : 0 ≤ left) (h1 : left ≤ 1099511627776) (hl1 : Lies w (.l L1) [.slice A1 n1 c1]) (ht1 : ∀ x ∈ L1, Has tyEntity x) (hm1 : n1 ≤ 9223372036854775807) (hl2 : Lies w (.l L2) [.slice A2 n2 c2]) (ht2 : ∀ x ∈ L2, Has tySent x) (hm2 : n2 ≤ 9223372036854775807) (hl3 : Lies w (.l L3) [.slice A3 n3 c3]) (ht3 : ∀ x ∈ L3, Has tyLink x) (hm3 : n3 ≤ 9223372036854775807) (hl4 : Lies w (.l L4) [.slice A4 n4 c4]) (ht4 : ∀ x ∈ L4, Has tyOutgoing x) (hm4 : n4 ≤ 9223372036854775807) : Calls Try.prog 28 #[.agg #[.int .i64 f0, .slice A1 n1 c1, .slice A2 n2 c2, .slice A3 n3 c3, .slice A4 n4 c4], .int .i64 left] w (GivesInt (leftD (.r [.i f0, .l L1, .l L2, .l L3, .l L4]) left) w) := by
  have HL1 := Lib.hid hl1
  have HT1 := Lib.hid ht1
  clear hl1 ht1
  have HL2 := Lib.hid hl2
  have HT2 := Lib.hid ht2
  clear hl2 ht2
  have HL3 := Lib.hid hl3
  have HT3 := Lib.hid ht3
  clear hl3 ht3
  have HL4 := Lib.hid hl4
  have HT4 := Lib.hid ht4
  clear hl4 ht4
  have X := Lib.hid ((Held.start w).push #[.int .i64 f0, .slice A1 n1 c1, .slice A2 n2 c2, .slice A3 n3 c3, .slice A4 n4 c4] 60)
  go_enter Try.func28, Try.ntmps28
  go_wp2_with fail
  refine (szEntityS L1 A1 n1 c1 (left) _ (by omega) (by omega) (HL1.out.below (X.out.1)) HT1.out hm1).mono ?_
  rintro e w1 ⟨rfl, hb⟩
  replace X := Lib.hid (X.out.below hb)
  clear hb
  by_cases g1 : left - (Dat.l L1).bulk < 0
  · rw [show leftD (Dat.l L1) (left) = -1 from if_pos g1]
    have hneg : Hid (left - (.r [.i f0, .l L1, .l L2, .l L3, .l L4] : Dat).bulk < 0) := Lib.hid (by simp only [Dat.bulk, bulkAll] at *; omega)
    go_wp2_with fail
    go_ret
    exact GivesInt.ret (leftD_no hneg.out) X.out.1
  · rw [show leftD (Dat.l L1) (left) = left - (Dat.l L1).bulk from if_neg g1]
    obtain ⟨r1, hr1⟩ : ∃ r, r = left - (Dat.l L1).bulk := ⟨_, rfl⟩
    rw [← hr1]
    have hp1 : 0 ≤ r1 := by omega
    have hu1 : r1 ≤ 1099511627776 := by omega
    have HR1 := Lib.hid hr1
    clear hr1 g1
    have x0 := X.out.at_ (g := w.heap.size) (i := 0) (v := .int .i64 f0) (cs := [.int .i64 f0, .slice A1 n1 c1, .slice A2 n2 c2, .slice A3 n3 c3, .slice A4 n4 c4]) (by repeat (first | exact List.mem_cons_self | refine List.mem_cons_of_mem _ ?_)) rfl
    have x1 := X.out.at_ (g := w.heap.size) (i := 1) (v := .slice A1 n1 c1) (cs := [.int .i64 f0, .slice A1 n1 c1, .slice A2 n2 c2, .slice A3 n3 c3, .slice A4 n4 c4]) (by repeat (first | exact List.mem_cons_self | refine List.mem_cons_of_mem _ ?_)) rfl
    have x2 := X.out.at_ (g := w.heap.size) (i := 2) (v := .slice A2 n2 c2) (cs := [.int .i64 f0, .slice A1 n1 c1, .slice A2 n2 c2, .slice A3 n3 c3, .slice A4 n4 c4]) (by repeat (first | exact List.mem_cons_self | refine List.mem_cons_of_mem _ ?_)) rfl
    have x3 := X.out.at_ (g := w.heap.size) (i := 3) (v := .slice A3 n3 c3) (cs := [.int .i64 f0, .slice A1 n1 c1, .slice A2 n2 c2, .slice A3 n3 c3, .slice A4 n4 c4]) (by repeat (first | exact List.mem_cons_self | refine List.mem_cons_of_mem _ ?_)) rfl
    have x4 := X.out.at_ (g := w.heap.size) (i := 4) (v := .slice A4 n4 c4) (cs := [.int .i64 f0, .slice A1 n1 c1, .slice A2 n2 c2, .slice A3 n3 c3, .slice A4 n4 c4]) (by repeat (first | exact List.mem_cons_self | refine List.mem_cons_of_mem _ ?_)) rfl
    go_wp2_with fail
    refine (szSentS L2 A2 n2 c2 (r1) _ (by omega) (by omega) (HL2.out.below (X.out.1)) HT2.out hm2).mono ?_
    rintro e w2 ⟨rfl, hb⟩
    clear x0 x1 x2 x3 x4
    replace X := Lib.hid (X.out.below hb)
    clear hb
    by_cases g2 : r1 - (Dat.l L2).bulk < 0
    · rw [show leftD (Dat.l L2) (r1) = -1 from if_pos g2]
      have hneg : Hid (left - (.r [.i f0, .l L1, .l L2, .l L3, .l L4] : Dat).bulk < 0) := Lib.hid (by have q0 := HR1.out; simp only [Dat.bulk, bulkAll] at *; omega)
      go_wp2_with fail
      go_ret
      exact GivesInt.ret (leftD_no hneg.out) X.out.1
    · rw [show leftD (Dat.l L2) (r1) = r1 - (Dat.l L2).bulk from if_neg g2]
      obtain ⟨r2, hr2⟩ : ∃ r, r = r1 - (Dat.l L2).bulk := ⟨_, rfl⟩
      rw [← hr2]
      have hp2 : 0 ≤ r2 := by omega
      have hu2 : r2 ≤ 1099511627776 := by omega
      have HR2 := Lib.hid hr2
      clear hr2 g2
      have x0 := X.out.at_ (g := w.heap.size) (i := 0) (v := .int .i64 f0) (cs := [.int .i64 f0, .slice A1 n1 c1, .slice A2 n2 c2, .slice A3 n3 c3, .slice A4 n4 c4]) (by repeat (first | exact List.mem_cons_self | refine List.mem_cons_of_mem _ ?_)) rfl
      have x1 := X.out.at_ (g := w.heap.size) (i := 1) (v := .slice A1 n1 c1) (cs := [.int .i64 f0, .slice A1 n1 c1, .slice A2 n2 c2, .slice A3 n3 c3, .slice A4 n4 c4]) (by repeat (first | exact List.mem_cons_self | refine List.mem_cons_of_mem _ ?_)) rfl
      have x2 := X.out.at_ (g := w.heap.size) (i := 2) (v := .slice A2 n2 c2) (cs := [.int .i64 f0, .slice A1 n1 c1, .slice A2 n2 c2, .slice A3 n3 c3, .slice A4 n4 c4]) (by repeat (first | exact List.mem_cons_self | refine List.mem_cons_of_mem _ ?_)) rfl
      have x3 := X.out.at_ (g := w.heap.size) (i := 3) (v := .slice A3 n3 c3) (cs := [.int .i64 f0, .slice A1 n1 c1, .slice A2 n2 c2, .slice A3 n3 c3, .slice A4 n4 c4]) (by repeat (first | exact List.mem_cons_self | refine List.mem_cons_of_mem _ ?_)) rfl
      have x4 := X.out.at_ (g := w.heap.size) (i := 4) (v := .slice A4 n4 c4) (cs := [.int .i64 f0, .slice A1 n1 c1, .slice A2 n2 c2, .slice A3 n3 c3, .slice A4 n4 c4]) (by repeat (first | exact List.mem_cons_self | refine List.mem_cons_of_mem _ ?_)) rfl
      go_wp2_with fail
      refine (szLinkS L3 A3 n3 c3 (r2) _ (by omega) (by omega) (HL3.out.below (X.out.1)) HT3.out hm3).mono ?_
      rintro e w3 ⟨rfl, hb⟩
      clear x0 x1 x2 x3 x4
      replace X := Lib.hid (X.out.below hb)
      clear hb
      by_cases g3 : r2 - (Dat.l L3).bulk < 0
      · rw [show leftD (Dat.l L3) (r2) = -1 from if_pos g3]
        have hneg : Hid (left - (.r [.i f0, .l L1, .l L2, .l L3, .l L4] : Dat).bulk < 0) := Lib.hid (by have q0 := HR1.out; have q1 := HR2.out; simp only [Dat.bulk, bulkAll] at *; omega)
        go_wp2_with fail
        go_ret
        exact GivesInt.ret (leftD_no hneg.out) X.out.1
      · rw [show leftD (Dat.l L3) (r2) = r2 - (Dat.l L3).bulk from if_neg g3]
        obtain ⟨r3, hr3⟩ : ∃ r, r = r2 - (Dat.l L3).bulk := ⟨_, rfl⟩
        rw [← hr3]
        have hp3 : 0 ≤ r3 := by omega
        have hu3 : r3 ≤ 1099511627776 := by omega
        have HR3 := Lib.hid hr3
        clear hr3 g3
        have x0 := X.out.at_ (g := w.heap.size) (i := 0) (v := .int .i64 f0) (cs := [.int .i64 f0, .slice A1 n1 c1, .slice A2 n2 c2, .slice A3 n3 c3, .slice A4 n4 c4]) (by repeat (first | exact List.mem_cons_self | refine List.mem_cons_of_mem _ ?_)) rfl
        have x1 := X.out.at_ (g := w.heap.size) (i := 1) (v := .slice A1 n1 c1) (cs := [.int .i64 f0, .slice A1 n1 c1, .slice A2 n2 c2, .slice A3 n3 c3, .slice A4 n4 c4]) (by repeat (first | exact List.mem_cons_self | refine List.mem_cons_of_mem _ ?_)) rfl
        have x2 := X.out.at_ (g := w.heap.size) (i := 2) (v := .slice A2 n2 c2) (cs := [.int .i64 f0, .slice A1 n1 c1, .slice A2 n2 c2, .slice A3 n3 c3, .slice A4 n4 c4]) (by repeat (first | exact List.mem_cons_self | refine List.mem_cons_of_mem _ ?_)) rfl
        have x3 := X.out.at_ (g := w.heap.size) (i := 3) (v := .slice A3 n3 c3) (cs := [.int .i64 f0, .slice A1 n1 c1, .slice A2 n2 c2, .slice A3 n3 c3, .slice A4 n4 c4]) (by repeat (first | exact List.mem_cons_self | refine List.mem_cons_of_mem _ ?_)) rfl
        have x4 := X.out.at_ (g := w.heap.size) (i := 4) (v := .slice A4 n4 c4) (cs := [.int .i64 f0, .slice A1 n1 c1, .slice A2 n2 c2, .slice A3 n3 c3, .slice A4 n4 c4]) (by repeat (first | exact List.mem_cons_self | refine List.mem_cons_of_mem _ ?_)) rfl
        go_wp2_with fail
        refine (szOutgoingS L4 A4 n4 c4 (r3) _ (by omega) (by omega) (HL4.out.below (X.out.1)) HT4.out hm4).mono ?_
        rintro e w4 ⟨rfl, hb⟩
        clear x0 x1 x2 x3 x4
        replace X := Lib.hid (X.out.below hb)
        clear hb
        by_cases g4 : r3 - (Dat.l L4).bulk < 0
        · rw [show leftD (Dat.l L4) (r3) = -1 from if_pos g4]
          have hneg : Hid (left - (.r [.i f0, .l L1, .l L2, .l L3, .l L4] : Dat).bulk < 0) := Lib.hid (by have q0 := HR1.out; have q1 := HR2.out; have q2 := HR3.out; simp only [Dat.bulk, bulkAll] at *; omega)
          go_wp2_with fail
          go_ret
          exact GivesInt.ret (leftD_no hneg.out) X.out.1
        · rw [show leftD (Dat.l L4) (r3) = r3 - (Dat.l L4).bulk from if_neg g4]
          obtain ⟨r4, hr4⟩ : ∃ r, r = r3 - (Dat.l L4).bulk := ⟨_, rfl⟩
          rw [← hr4]
          have hp4 : 0 ≤ r4 := by omega
          have hu4 : r4 ≤ 1099511627776 := by omega
          have HR4 := Lib.hid hr4
          clear hr4 g4
          have hend : Hid (r4 = leftD (.r [.i f0, .l L1, .l L2, .l L3, .l L4]) left) := Lib.hid (leftD_ok (by have q0 := HR1.out; have q1 := HR2.out; have q2 := HR3.out; have q3 := HR4.out; simp only [Dat.bulk, bulkAll] at *; omega) (by have q0 := HR1.out; have q1 := HR2.out; have q2 := HR3.out; have q3 := HR4.out; simp only [Dat.bulk, bulkAll] at *; omega))
          go_wp2_with fail
          go_ret
          exact GivesInt.ret hend.out X.out.1
end Go.Proofs.Ytmeacgpebpfpbaa
end
section
namespace Go.Proofs.Ytmeacgpebpfpbaa
open Go.RowKit
set_option linter.unusedVariables false
set_option linter.unusedSimpArgs false
set_option maxRecDepth 100000 in
set_option maxHeartbeats 16000000 in
theorem law_EqualVats (f0 : Int) (L1 : List Dat) (A1 : Option Addr) (n1 c1 : Nat) (L2 : List Dat) (A2 : Option Addr) (n2 c2 : Nat) (L3 : List Dat) (A3 : Option Addr) (n3 c3 : Nat) (L4 : List Dat) (A4 : Option Addr) (n4 c4 : Nat) (g0 : Int) (M1 : List Dat) (D1 : Option Addr) (m1 d1 : Nat) (M2 : List Dat) (D2 : Option Addr) (m2 d2 : Nat) (M3 : List Dat) (D3 : Option Addr) (m3 d3 : Nat) (M4 : List Dat) (D4 : Option Addr) (m4 d4 : Nat) (W : World) (hl1 : Lies W (.l L1) [.slice A1 n1 c1]) (ht1 : ∀ x ∈ L1, Has tyEntity x) (hm1 : n1 ≤ 9223372036854775807) (hl2 : Lies W (.l L2) [.slice A2 n2 c2]) (ht2 : ∀ x ∈ L2, Has tySent x) (hm2 : n2 ≤ 9223372036854775807) (hl3 : Lies W (.l L3) [.slice A3 n3 c3]) (ht3 : ∀ x ∈ L3, Has tyLink x) (hm3 : n3 ≤ 9223372036854775807) (hl4 : Lies W (.l L4) [.slice A4 n4 c4]) (ht4 : ∀ x ∈ L4, Has tyOutgoing x) (hm4 : n4 ≤ 9223372036854775807) (hlr1 : Lies W (.l M1) [.slice D1 m1 d1]) (htr1 : ∀ x ∈ M1, Has tyEntity x) (hmr1 : m1 ≤ 9223372036854775807) (hlr2 : Lies W (.l M2) [.slice D2 m2 d2]) (htr2 : ∀ x ∈ M2, Has tySent x) (hmr2 : m2 ≤ 9223372036854775807) (hlr3 : Lies W (.l M3) [.slice D3 m3 d3]) (htr3 : ∀ x ∈ M3, Has tyLink x) (hmr3 : m3 ≤ 9223372036854775807) (hlr4 : Lies W (.l M4) [.slice D4 m4 d4]) (htr4 : ∀ x ∈ M4, Has tyOutgoing x) (hmr4 : m4 ≤ 9223372036854775807) :
    Calls Try.prog 9 #[.agg #[.int .i64 f0, .slice A1 n1 c1, .slice A2 n2 c2, .slice A3 n3 c3, .slice A4 n4 c4], .agg #[.int .i64 g0, .slice D1 m1 d1, .slice D2 m2 d2, .slice D3 m3 d3, .slice D4 m4 d4]] W (GivesBool true W) := by
  have X := Lib.hid (((((((((St.start W).lie hl1).lie hl2).lie hl3).lie hl4).lie hlr1).lie hlr2).lie hlr3).lie hlr4)
  have hc1 := Lib.hid hl1.count
  have hc2 := Lib.hid hl2.count
  have hc3 := Lib.hid hl3.count
  have hc4 := Lib.hid hl4.count
  have hcr1 := Lib.hid hlr1.count
  have hcr2 := Lib.hid hlr2.count
  have hcr3 := Lib.hid hlr3.count
  have hcr4 := Lib.hid hlr4.count
  clear hl1 hl2 hl3 hl4 hlr1 hlr2 hlr3 hlr4
  replace X := Lib.hid (X.out.push #[.int .i64 f0, .slice A1 n1 c1, .slice A2 n2 c2, .slice A3 n3 c3, .slice A4 n4 c4] 60)
  replace X := Lib.hid (X.out.push #[.int .i64 g0, .slice D1 m1 d1, .slice D2 m2 d2, .slice D3 m3 d3, .slice D4 m4 d4] 60)
  simp only [World.size_alloc] at X
  obtain ⟨v, hv⟩ : ∃ v, eq1 (.r [.i f0, .l L1, .l L2, .l L3, .l L4]) (.r [.i g0, .l M1, .l M2, .l M3, .l M4]) = v := ⟨_, rfl⟩
  have HV := Lib.hid hv
  clear hv
  rcases leftD_cases (.r [.i f0, .l L1, .l L2, .l L3, .l L4] : Dat) 1048576 with hbig | ⟨r, hr, hr0, hr1, hb⟩
  case inl =>
    have HBIG := Lib.hid hbig
    clear hbig
    go_enter Try.func9, Try.ntmps9
    obtain ⟨x0, x1, x2, x3, x4⟩ := (X.out.1.box (g := W.heap.size) (cs := [.int .i64 f0, .slice A1 n1 c1, .slice A2 n2 c2, .slice A3 n3 c3, .slice A4 n4 c4]) (by repeat (first | exact List.mem_cons_self | refine List.mem_cons_of_mem _ ?_))).c5
    go_wp2_with fail
    refine (szVat f0 L1 A1 n1 c1 L2 A2 n2 c2 L3 A3 n3 c3 L4 A4 n4 c4 (1048576) _ (by omega) (by omega) (X.out.lies (d := .l L1) (cs := [.slice A1 n1 c1]) (by repeat (first | exact List.mem_cons_self | refine List.mem_cons_of_mem _ ?_))) ht1 hm1 (X.out.lies (d := .l L2) (cs := [.slice A2 n2 c2]) (by repeat (first | exact List.mem_cons_self | refine List.mem_cons_of_mem _ ?_))) ht2 hm2 (X.out.lies (d := .l L3) (cs := [.slice A3 n3 c3]) (by repeat (first | exact List.mem_cons_self | refine List.mem_cons_of_mem _ ?_))) ht3 hm3 (X.out.lies (d := .l L4) (cs := [.slice A4 n4 c4]) (by repeat (first | exact List.mem_cons_self | refine List.mem_cons_of_mem _ ?_))) ht4 hm4).mono ?_
    rintro e w1 ⟨rfl, hb⟩
    rw [HBIG.out]
    replace X := Lib.hid (X.out.below hb)
    clear hb
    clear x0 x1 x2 x3 x4
    go_wp2_with fail
    go_ret
    exact GivesBool.ret X.out.low
  case inr =>
    have HR := Lib.hid hr
    clear hr
    have hq1 : (Dat.l L1).bulk ≤ 1099511627776 := by simp only [Dat.bulk, bulkAll] at hb ⊢; omega
    have hn1 : n1 ≤ 1099511627776 := by have h1 := hc1.out; simp only [Dat.bulk, bulkAll] at hb; omega
    have hq2 : (Dat.l L2).bulk ≤ 1099511627776 := by simp only [Dat.bulk, bulkAll] at hb ⊢; omega
    have hn2 : n2 ≤ 1099511627776 := by have h1 := hc2.out; simp only [Dat.bulk, bulkAll] at hb; omega
    have hq3 : (Dat.l L3).bulk ≤ 1099511627776 := by simp only [Dat.bulk, bulkAll] at hb ⊢; omega
    have hn3 : n3 ≤ 1099511627776 := by have h1 := hc3.out; simp only [Dat.bulk, bulkAll] at hb; omega
    have hq4 : (Dat.l L4).bulk ≤ 1099511627776 := by simp only [Dat.bulk, bulkAll] at hb ⊢; omega
    have hn4 : n4 ≤ 1099511627776 := by have h1 := hc4.out; simp only [Dat.bulk, bulkAll] at hb; omega
    rcases leftD_cases (.r [.i g0, .l M1, .l M2, .l M3, .l M4] : Dat) r with hbig | ⟨rr, hrr, hr0r, hr1r, hbr⟩
    case inl =>
      have HBIG := Lib.hid hbig
      clear hbig
      go_enter Try.func9, Try.ntmps9
      obtain ⟨x0, x1, x2, x3, x4⟩ := (X.out.1.box (g := W.heap.size) (cs := [.int .i64 f0, .slice A1 n1 c1, .slice A2 n2 c2, .slice A3 n3 c3, .slice A4 n4 c4]) (by repeat (first | exact List.mem_cons_self | refine List.mem_cons_of_mem _ ?_))).c5
      go_wp2_with fail
      refine (szVat f0 L1 A1 n1 c1 L2 A2 n2 c2 L3 A3 n3 c3 L4 A4 n4 c4 (1048576) _ (by omega) (by omega) (X.out.lies (d := .l L1) (cs := [.slice A1 n1 c1]) (by repeat (first | exact List.mem_cons_self | refine List.mem_cons_of_mem _ ?_))) ht1 hm1 (X.out.lies (d := .l L2) (cs := [.slice A2 n2 c2]) (by repeat (first | exact List.mem_cons_self | refine List.mem_cons_of_mem _ ?_))) ht2 hm2 (X.out.lies (d := .l L3) (cs := [.slice A3 n3 c3]) (by repeat (first | exact List.mem_cons_self | refine List.mem_cons_of_mem _ ?_))) ht3 hm3 (X.out.lies (d := .l L4) (cs := [.slice A4 n4 c4]) (by repeat (first | exact List.mem_cons_self | refine List.mem_cons_of_mem _ ?_))) ht4 hm4).mono ?_
      rintro e w1 ⟨rfl, hb⟩
      rw [HR.out]
      replace X := Lib.hid (X.out.below hb)
      clear hb
      clear x0 x1 x2 x3 x4
      obtain ⟨x0, x1, x2, x3, x4⟩ := (X.out.1.box (g := W.heap.size + 1) (cs := [.int .i64 g0, .slice D1 m1 d1, .slice D2 m2 d2, .slice D3 m3 d3, .slice D4 m4 d4]) (by repeat (first | exact List.mem_cons_self | refine List.mem_cons_of_mem _ ?_))).c5
      go_wp2_with fail
      refine (szVat g0 M1 D1 m1 d1 M2 D2 m2 d2 M3 D3 m3 d3 M4 D4 m4 d4 (r) _ (by omega) (by omega) (X.out.lies (d := .l M1) (cs := [.slice D1 m1 d1]) (by repeat (first | exact List.mem_cons_self | refine List.mem_cons_of_mem _ ?_))) htr1 hmr1 (X.out.lies (d := .l M2) (cs := [.slice D2 m2 d2]) (by repeat (first | exact List.mem_cons_self | refine List.mem_cons_of_mem _ ?_))) htr2 hmr2 (X.out.lies (d := .l M3) (cs := [.slice D3 m3 d3]) (by repeat (first | exact List.mem_cons_self | refine List.mem_cons_of_mem _ ?_))) htr3 hmr3 (X.out.lies (d := .l M4) (cs := [.slice D4 m4 d4]) (by repeat (first | exact List.mem_cons_self | refine List.mem_cons_of_mem _ ?_))) htr4 hmr4).mono ?_
      rintro e w2 ⟨rfl, hb⟩
      rw [HBIG.out]
      replace X := Lib.hid (X.out.below hb)
      clear hb
      clear x0 x1 x2 x3 x4
      go_wp2_with fail
      go_ret
      exact GivesBool.ret X.out.low
    case inr =>
      have HRr := Lib.hid hrr
      clear hrr
      have hqr1 : (Dat.l M1).bulk ≤ 1099511627776 := by simp only [Dat.bulk, bulkAll] at hbr ⊢; omega
      have hnr1 : m1 ≤ 1099511627776 := by have h1 := hcr1.out; simp only [Dat.bulk, bulkAll] at hbr; omega
      have hqr2 : (Dat.l M2).bulk ≤ 1099511627776 := by simp only [Dat.bulk, bulkAll] at hbr ⊢; omega
      have hnr2 : m2 ≤ 1099511627776 := by have h1 := hcr2.out; simp only [Dat.bulk, bulkAll] at hbr; omega
      have hqr3 : (Dat.l M3).bulk ≤ 1099511627776 := by simp only [Dat.bulk, bulkAll] at hbr ⊢; omega
      have hnr3 : m3 ≤ 1099511627776 := by have h1 := hcr3.out; simp only [Dat.bulk, bulkAll] at hbr; omega
      have hqr4 : (Dat.l M4).bulk ≤ 1099511627776 := by simp only [Dat.bulk, bulkAll] at hbr ⊢; omega
      have hnr4 : m4 ≤ 1099511627776 := by have h1 := hcr4.out; simp only [Dat.bulk, bulkAll] at hbr; omega
      go_enter Try.func9, Try.ntmps9
      obtain ⟨x0, x1, x2, x3, x4⟩ := (X.out.1.box (g := W.heap.size) (cs := [.int .i64 f0, .slice A1 n1 c1, .slice A2 n2 c2, .slice A3 n3 c3, .slice A4 n4 c4]) (by repeat (first | exact List.mem_cons_self | refine List.mem_cons_of_mem _ ?_))).c5
      go_wp2_with fail
      refine (szVat f0 L1 A1 n1 c1 L2 A2 n2 c2 L3 A3 n3 c3 L4 A4 n4 c4 (1048576) _ (by omega) (by omega) (X.out.lies (d := .l L1) (cs := [.slice A1 n1 c1]) (by repeat (first | exact List.mem_cons_self | refine List.mem_cons_of_mem _ ?_))) ht1 hm1 (X.out.lies (d := .l L2) (cs := [.slice A2 n2 c2]) (by repeat (first | exact List.mem_cons_self | refine List.mem_cons_of_mem _ ?_))) ht2 hm2 (X.out.lies (d := .l L3) (cs := [.slice A3 n3 c3]) (by repeat (first | exact List.mem_cons_self | refine List.mem_cons_of_mem _ ?_))) ht3 hm3 (X.out.lies (d := .l L4) (cs := [.slice A4 n4 c4]) (by repeat (first | exact List.mem_cons_self | refine List.mem_cons_of_mem _ ?_))) ht4 hm4).mono ?_
      rintro e w1 ⟨rfl, hb⟩
      rw [HR.out]
      replace X := Lib.hid (X.out.below hb)
      clear hb
      clear x0 x1 x2 x3 x4
      obtain ⟨x0, x1, x2, x3, x4⟩ := (X.out.1.box (g := W.heap.size + 1) (cs := [.int .i64 g0, .slice D1 m1 d1, .slice D2 m2 d2, .slice D3 m3 d3, .slice D4 m4 d4]) (by repeat (first | exact List.mem_cons_self | refine List.mem_cons_of_mem _ ?_))).c5
      go_wp2_with fail
      refine (szVat g0 M1 D1 m1 d1 M2 D2 m2 d2 M3 D3 m3 d3 M4 D4 m4 d4 (r) _ (by omega) (by omega) (X.out.lies (d := .l M1) (cs := [.slice D1 m1 d1]) (by repeat (first | exact List.mem_cons_self | refine List.mem_cons_of_mem _ ?_))) htr1 hmr1 (X.out.lies (d := .l M2) (cs := [.slice D2 m2 d2]) (by repeat (first | exact List.mem_cons_self | refine List.mem_cons_of_mem _ ?_))) htr2 hmr2 (X.out.lies (d := .l M3) (cs := [.slice D3 m3 d3]) (by repeat (first | exact List.mem_cons_self | refine List.mem_cons_of_mem _ ?_))) htr3 hmr3 (X.out.lies (d := .l M4) (cs := [.slice D4 m4 d4]) (by repeat (first | exact List.mem_cons_self | refine List.mem_cons_of_mem _ ?_))) htr4 hmr4).mono ?_
      rintro e w2 ⟨rfl, hb⟩
      rw [HRr.out]
      replace X := Lib.hid (X.out.below hb)
      clear hb
      clear x0 x1 x2 x3 x4
      obtain ⟨p0, p1, p2, p3, p4⟩ := (X.out.1.box (g := W.heap.size) (cs := [.int .i64 f0, .slice A1 n1 c1, .slice A2 n2 c2, .slice A3 n3 c3, .slice A4 n4 c4]) (by repeat (first | exact List.mem_cons_self | refine List.mem_cons_of_mem _ ?_))).c5
      obtain ⟨x0, x1, x2, x3, x4⟩ := (X.out.1.box (g := W.heap.size + 1) (cs := [.int .i64 g0, .slice D1 m1 d1, .slice D2 m2 d2, .slice D3 m3 d3, .slice D4 m4 d4]) (by repeat (first | exact List.mem_cons_self | refine List.mem_cons_of_mem _ ?_))).c5
      go_wp2_with fail
      replace X := Lib.hid X.out.drew
      go_region_held3 (fun w' => (w'.cell? ⟨W.heap.size, 0, none⟩ = some (.int .i64 f0) ∧ w'.cell? ⟨W.heap.size, 1, none⟩ = some (.slice A1 n1 c1) ∧ w'.cell? ⟨W.heap.size, 2, none⟩ = some (.slice A2 n2 c2) ∧ w'.cell? ⟨W.heap.size, 3, none⟩ = some (.slice A3 n3 c3) ∧ w'.cell? ⟨W.heap.size, 4, none⟩ = some (.slice A4 n4 c4)) ∧ (w'.cell? ⟨W.heap.size + 1, 0, none⟩ = some (.int .i64 g0) ∧ w'.cell? ⟨W.heap.size + 1, 1, none⟩ = some (.slice D1 m1 d1) ∧ w'.cell? ⟨W.heap.size + 1, 2, none⟩ = some (.slice D2 m2 d2) ∧ w'.cell? ⟨W.heap.size + 1, 3, none⟩ = some (.slice D3 m3 d3) ∧ w'.cell? ⟨W.heap.size + 1, 4, none⟩ = some (.slice D4 m4 d4)))
        (first | with_reducible exact ⟨(X.out.c5 (b := W.heap.size) (v0 := .int .i64 f0) (v1 := .slice A1 n1 c1) (v2 := .slice A2 n2 c2) (v3 := .slice A3 n3 c3) (v4 := .slice A4 n4 c4) (by repeat (first | exact List.mem_cons_self | refine List.mem_cons_of_mem _ ?_))), (X.out.c5 (b := W.heap.size + 1) (v0 := .int .i64 g0) (v1 := .slice D1 m1 d1) (v2 := .slice D2 m2 d2) (v3 := .slice D3 m3 d3) (v4 := .slice D4 m4 d4) (by repeat (first | exact List.mem_cons_self | refine List.mem_cons_of_mem _ ?_)))⟩ | go_keep)
        (first
        | (go_at_call 30; (with_reducible refine (toVat f0 L1 A1 n1 c1 L2 A2 n2 c2 L3 A3 n3 c3 L4 A4 n4 c4 _ (X.out.lies (d := .l L1) (cs := [.slice A1 n1 c1]) (by repeat (first | exact List.mem_cons_self | refine List.mem_cons_of_mem _ ?_))) ht1 hq1 (X.out.lies (d := .l L2) (cs := [.slice A2 n2 c2]) (by repeat (first | exact List.mem_cons_self | refine List.mem_cons_of_mem _ ?_))) ht2 hq2 (X.out.lies (d := .l L3) (cs := [.slice A3 n3 c3]) (by repeat (first | exact List.mem_cons_self | refine List.mem_cons_of_mem _ ?_))) ht3 hq3 (X.out.lies (d := .l L4) (cs := [.slice A4 n4 c4]) (by repeat (first | exact List.mem_cons_self | refine List.mem_cons_of_mem _ ?_))) ht4 hq4).mono ?_); rintro e u5 ⟨Bt1, kt1, Bt2, kt2, Bt3, kt3, Bt4, kt4, a1, a2, a3, rfl, hO1, hO2, hO3, hO4, -, -, -, -, hb5⟩; replace X := Lib.hid (((((X.out.below hb5).lie hO1.lies).lie hO2.lies).lie hO3.lies).lie hO4.lies); clear hb5 hO1 hO2 hO3 hO4)
        | (go_at_call 30; (with_reducible refine (toVat g0 M1 D1 m1 d1 M2 D2 m2 d2 M3 D3 m3 d3 M4 D4 m4 d4 _ (X.out.lies (d := .l M1) (cs := [.slice D1 m1 d1]) (by repeat (first | exact List.mem_cons_self | refine List.mem_cons_of_mem _ ?_))) htr1 hqr1 (X.out.lies (d := .l M2) (cs := [.slice D2 m2 d2]) (by repeat (first | exact List.mem_cons_self | refine List.mem_cons_of_mem _ ?_))) htr2 hqr2 (X.out.lies (d := .l M3) (cs := [.slice D3 m3 d3]) (by repeat (first | exact List.mem_cons_self | refine List.mem_cons_of_mem _ ?_))) htr3 hqr3 (X.out.lies (d := .l M4) (cs := [.slice D4 m4 d4]) (by repeat (first | exact List.mem_cons_self | refine List.mem_cons_of_mem _ ?_))) htr4 hqr4).mono ?_); rintro e u6 ⟨Bs1, ks1, Bs2, ks2, Bs3, ks3, Bs4, ks4, a1, a2, a3, rfl, hO1, hO2, hO3, hO4, -, -, -, -, hb5⟩; replace X := Lib.hid (((((X.out.below hb5).lie hO1.lies).lie hO2.lies).lie hO3.lies).lie hO4.lies); clear hb5 hO1 hO2 hO3 hO4)
        | (go_at_call 40; (with_reducible refine (specEqVat f0 L1 Bt1 n1 kt1 L2 Bt2 n2 kt2 L3 Bt3 n3 kt3 L4 Bt4 n4 kt4 g0 M1 Bs1 m1 ks1 M2 Bs2 m2 ks2 M3 Bs3 m3 ks3 M4 Bs4 m4 ks4 _ (X.out.lies (d := .l L1) (cs := [.slice Bt1 n1 kt1]) (by repeat (first | exact List.mem_cons_self | refine List.mem_cons_of_mem _ ?_))) (X.out.lies (d := .l M1) (cs := [.slice Bs1 m1 ks1]) (by repeat (first | exact List.mem_cons_self | refine List.mem_cons_of_mem _ ?_))) ht1 htr1 hq1 hmr1 (X.out.lies (d := .l L2) (cs := [.slice Bt2 n2 kt2]) (by repeat (first | exact List.mem_cons_self | refine List.mem_cons_of_mem _ ?_))) (X.out.lies (d := .l M2) (cs := [.slice Bs2 m2 ks2]) (by repeat (first | exact List.mem_cons_self | refine List.mem_cons_of_mem _ ?_))) ht2 htr2 hq2 hmr2 (X.out.lies (d := .l L3) (cs := [.slice Bt3 n3 kt3]) (by repeat (first | exact List.mem_cons_self | refine List.mem_cons_of_mem _ ?_))) (X.out.lies (d := .l M3) (cs := [.slice Bs3 m3 ks3]) (by repeat (first | exact List.mem_cons_self | refine List.mem_cons_of_mem _ ?_))) ht3 htr3 hq3 hmr3 (X.out.lies (d := .l L4) (cs := [.slice Bt4 n4 kt4]) (by repeat (first | exact List.mem_cons_self | refine List.mem_cons_of_mem _ ?_))) (X.out.lies (d := .l M4) (cs := [.slice Bs4 m4 ks4]) (by repeat (first | exact List.mem_cons_self | refine List.mem_cons_of_mem _ ?_))) ht4 htr4 hq4 hmr4 ).mono ?_); rintro e u7 ⟨rfl, hb5⟩; rw [HV.out]; replace X := Lib.hid (X.out.below hb5); clear hb5))
      all_goals (
        try clear p0 p1 p2 p3 p4 x0 x1 x2 x3 x4
        obtain ⟨x0, x1, x2, x3, x4⟩ := (X.out.1.box (g := W.heap.size) (cs := [.int .i64 f0, .slice A1 n1 c1, .slice A2 n2 c2, .slice A3 n3 c3, .slice A4 n4 c4]) (by repeat (first | exact List.mem_cons_self | refine List.mem_cons_of_mem _ ?_))).c5
        go_wp2_with fail
        refine (toVat f0 L1 A1 n1 c1 L2 A2 n2 c2 L3 A3 n3 c3 L4 A4 n4 c4 _ (X.out.lies (d := .l L1) (cs := [.slice A1 n1 c1]) (by repeat (first | exact List.mem_cons_self | refine List.mem_cons_of_mem _ ?_))) ht1 hq1 (X.out.lies (d := .l L2) (cs := [.slice A2 n2 c2]) (by repeat (first | exact List.mem_cons_self | refine List.mem_cons_of_mem _ ?_))) ht2 hq2 (X.out.lies (d := .l L3) (cs := [.slice A3 n3 c3]) (by repeat (first | exact List.mem_cons_self | refine List.mem_cons_of_mem _ ?_))) ht3 hq3 (X.out.lies (d := .l L4) (cs := [.slice A4 n4 c4]) (by repeat (first | exact List.mem_cons_self | refine List.mem_cons_of_mem _ ?_))) ht4 hq4).mono ?_
        rintro e w3 ⟨Bx1, kx1, Bx2, kx2, Bx3, kx3, Bx4, kx4, a1, a2, a3, rfl, hO1, hO2, hO3, hO4, -, -, -, -, hb⟩
        replace X := Lib.hid (((((X.out.below hb).lie hO1.lies).lie hO2.lies).lie hO3.lies).lie hO4.lies)
        clear hb hO1 hO2 hO3 hO4
        clear x0 x1 x2 x3 x4
        replace X := Lib.hid (X.out.push #[.int .i64 f0, .slice Bx1 n1 kx1, .slice Bx2 n2 kx2, .slice Bx3 n3 kx3, .slice Bx4 n4 kx4] 29)
        obtain ⟨x0, x1, x2, x3, x4⟩ := (X.out.1.box (g := W.heap.size + 1) (cs := [.int .i64 g0, .slice D1 m1 d1, .slice D2 m2 d2, .slice D3 m3 d3, .slice D4 m4 d4]) (by repeat (first | exact List.mem_cons_self | refine List.mem_cons_of_mem _ ?_))).c5
        go_wp2_with fail
        refine (toVat g0 M1 D1 m1 d1 M2 D2 m2 d2 M3 D3 m3 d3 M4 D4 m4 d4 _ (X.out.lies (d := .l M1) (cs := [.slice D1 m1 d1]) (by repeat (first | exact List.mem_cons_self | refine List.mem_cons_of_mem _ ?_))) htr1 hqr1 (X.out.lies (d := .l M2) (cs := [.slice D2 m2 d2]) (by repeat (first | exact List.mem_cons_self | refine List.mem_cons_of_mem _ ?_))) htr2 hqr2 (X.out.lies (d := .l M3) (cs := [.slice D3 m3 d3]) (by repeat (first | exact List.mem_cons_self | refine List.mem_cons_of_mem _ ?_))) htr3 hqr3 (X.out.lies (d := .l M4) (cs := [.slice D4 m4 d4]) (by repeat (first | exact List.mem_cons_self | refine List.mem_cons_of_mem _ ?_))) htr4 hqr4).mono ?_
        rintro e w4 ⟨By1, ky1, By2, ky2, By3, ky3, By4, ky4, a1, a2, a3, rfl, hO1, hO2, hO3, hO4, -, -, -, -, hb⟩
        replace X := Lib.hid (((((X.out.below hb).lie hO1.lies).lie hO2.lies).lie hO3.lies).lie hO4.lies)
        clear hb hO1 hO2 hO3 hO4
        clear x0 x1 x2 x3 x4
        replace X := Lib.hid (X.out.push #[.int .i64 g0, .slice By1 m1 ky1, .slice By2 m2 ky2, .slice By3 m3 ky3, .slice By4 m4 ky4] 29)
        obtain ⟨p0, p1, p2, p3, p4⟩ := (X.out.1.box (g := w3.heap.size) (cs := [.int .i64 f0, .slice Bx1 n1 kx1, .slice Bx2 n2 kx2, .slice Bx3 n3 kx3, .slice Bx4 n4 kx4]) (by repeat (first | exact List.mem_cons_self | refine List.mem_cons_of_mem _ ?_))).c5
        obtain ⟨x0, x1, x2, x3, x4⟩ := (X.out.1.box (g := w4.heap.size) (cs := [.int .i64 g0, .slice By1 m1 ky1, .slice By2 m2 ky2, .slice By3 m3 ky3, .slice By4 m4 ky4]) (by repeat (first | exact List.mem_cons_self | refine List.mem_cons_of_mem _ ?_))).c5
        go_wp2_with fail
        refine (implEqVat f0 L1 Bx1 n1 kx1 L2 Bx2 n2 kx2 L3 Bx3 n3 kx3 L4 Bx4 n4 kx4 g0 M1 By1 m1 ky1 M2 By2 m2 ky2 M3 By3 m3 ky3 M4 By4 m4 ky4 _ (X.out.lies (d := .l L1) (cs := [.slice Bx1 n1 kx1]) (by repeat (first | exact List.mem_cons_self | refine List.mem_cons_of_mem _ ?_))) (X.out.lies (d := .l M1) (cs := [.slice By1 m1 ky1]) (by repeat (first | exact List.mem_cons_self | refine List.mem_cons_of_mem _ ?_))) ht1 htr1 hq1 hmr1 (X.out.lies (d := .l L2) (cs := [.slice Bx2 n2 kx2]) (by repeat (first | exact List.mem_cons_self | refine List.mem_cons_of_mem _ ?_))) (X.out.lies (d := .l M2) (cs := [.slice By2 m2 ky2]) (by repeat (first | exact List.mem_cons_self | refine List.mem_cons_of_mem _ ?_))) ht2 htr2 hq2 hmr2 (X.out.lies (d := .l L3) (cs := [.slice Bx3 n3 kx3]) (by repeat (first | exact List.mem_cons_self | refine List.mem_cons_of_mem _ ?_))) (X.out.lies (d := .l M3) (cs := [.slice By3 m3 ky3]) (by repeat (first | exact List.mem_cons_self | refine List.mem_cons_of_mem _ ?_))) ht3 htr3 hq3 hmr3 (X.out.lies (d := .l L4) (cs := [.slice Bx4 n4 kx4]) (by repeat (first | exact List.mem_cons_self | refine List.mem_cons_of_mem _ ?_))) (X.out.lies (d := .l M4) (cs := [.slice By4 m4 ky4]) (by repeat (first | exact List.mem_cons_self | refine List.mem_cons_of_mem _ ?_))) ht4 htr4 hq4 hmr4 ).mono ?_
        rintro e w5 ⟨rfl, hb⟩
        rw [HV.out]
        replace X := Lib.hid (X.out.below hb)
        clear hb
        clear p0 p1 p2 p3 p4
        clear x0 x1 x2 x3 x4
        obtain ⟨p0, p1, p2, p3, p4⟩ := (X.out.1.box (g := w3.heap.size) (cs := [.int .i64 f0, .slice Bx1 n1 kx1, .slice Bx2 n2 kx2, .slice Bx3 n3 kx3, .slice Bx4 n4 kx4]) (by repeat (first | exact List.mem_cons_self | refine List.mem_cons_of_mem _ ?_))).c5
        obtain ⟨x0, x1, x2, x3, x4⟩ := (X.out.1.box (g := W.heap.size) (cs := [.int .i64 f0, .slice A1 n1 c1, .slice A2 n2 c2, .slice A3 n3 c3, .slice A4 n4 c4]) (by repeat (first | exact List.mem_cons_self | refine List.mem_cons_of_mem _ ?_))).c5
        go_wp2_with fail
        replace X := Lib.hid X.out.drew
        go_region_held3 (fun w' => (w'.cell? ⟨w3.heap.size, 0, none⟩ = some (.int .i64 f0) ∧ w'.cell? ⟨w3.heap.size, 1, none⟩ = some (.slice Bx1 n1 kx1) ∧ w'.cell? ⟨w3.heap.size, 2, none⟩ = some (.slice Bx2 n2 kx2) ∧ w'.cell? ⟨w3.heap.size, 3, none⟩ = some (.slice Bx3 n3 kx3) ∧ w'.cell? ⟨w3.heap.size, 4, none⟩ = some (.slice Bx4 n4 kx4)) ∧ (w'.cell? ⟨W.heap.size, 0, none⟩ = some (.int .i64 f0) ∧ w'.cell? ⟨W.heap.size, 1, none⟩ = some (.slice A1 n1 c1) ∧ w'.cell? ⟨W.heap.size, 2, none⟩ = some (.slice A2 n2 c2) ∧ w'.cell? ⟨W.heap.size, 3, none⟩ = some (.slice A3 n3 c3) ∧ w'.cell? ⟨W.heap.size, 4, none⟩ = some (.slice A4 n4 c4)))
          (first | with_reducible exact ⟨(X.out.c5 (b := w3.heap.size) (v0 := .int .i64 f0) (v1 := .slice Bx1 n1 kx1) (v2 := .slice Bx2 n2 kx2) (v3 := .slice Bx3 n3 kx3) (v4 := .slice Bx4 n4 kx4) (by repeat (first | exact List.mem_cons_self | refine List.mem_cons_of_mem _ ?_))), (X.out.c5 (b := W.heap.size) (v0 := .int .i64 f0) (v1 := .slice A1 n1 c1) (v2 := .slice A2 n2 c2) (v3 := .slice A3 n3 c3) (v4 := .slice A4 n4 c4) (by repeat (first | exact List.mem_cons_self | refine List.mem_cons_of_mem _ ?_)))⟩ | go_keep)
          (first
          | (go_at_call 30; (with_reducible refine (toVat f0 L1 A1 n1 c1 L2 A2 n2 c2 L3 A3 n3 c3 L4 A4 n4 c4 _ (X.out.lies (d := .l L1) (cs := [.slice A1 n1 c1]) (by repeat (first | exact List.mem_cons_self | refine List.mem_cons_of_mem _ ?_))) ht1 hq1 (X.out.lies (d := .l L2) (cs := [.slice A2 n2 c2]) (by repeat (first | exact List.mem_cons_self | refine List.mem_cons_of_mem _ ?_))) ht2 hq2 (X.out.lies (d := .l L3) (cs := [.slice A3 n3 c3]) (by repeat (first | exact List.mem_cons_self | refine List.mem_cons_of_mem _ ?_))) ht3 hq3 (X.out.lies (d := .l L4) (cs := [.slice A4 n4 c4]) (by repeat (first | exact List.mem_cons_self | refine List.mem_cons_of_mem _ ?_))) ht4 hq4).mono ?_); rintro e u5 ⟨Bu1, ku1, Bu2, ku2, Bu3, ku3, Bu4, ku4, a1, a2, a3, rfl, hO1, hO2, hO3, hO4, -, -, -, -, hb5⟩; replace X := Lib.hid (((((X.out.below hb5).lie hO1.lies).lie hO2.lies).lie hO3.lies).lie hO4.lies); clear hb5 hO1 hO2 hO3 hO4)
          | (go_at_call 23; (with_reducible refine (eqVat f0 L1 Bx1 n1 kx1 L2 Bx2 n2 kx2 L3 Bx3 n3 kx3 L4 Bx4 n4 kx4 Bu1 ku1 Bu2 ku2 Bu3 ku3 Bu4 ku4 _ (X.out.lies (d := .l L1) (cs := [.slice Bx1 n1 kx1]) (by repeat (first | exact List.mem_cons_self | refine List.mem_cons_of_mem _ ?_))) (X.out.lies (d := .l L1) (cs := [.slice Bu1 n1 ku1]) (by repeat (first | exact List.mem_cons_self | refine List.mem_cons_of_mem _ ?_))) ht1 hm1 (X.out.lies (d := .l L2) (cs := [.slice Bx2 n2 kx2]) (by repeat (first | exact List.mem_cons_self | refine List.mem_cons_of_mem _ ?_))) (X.out.lies (d := .l L2) (cs := [.slice Bu2 n2 ku2]) (by repeat (first | exact List.mem_cons_self | refine List.mem_cons_of_mem _ ?_))) ht2 hm2 (X.out.lies (d := .l L3) (cs := [.slice Bx3 n3 kx3]) (by repeat (first | exact List.mem_cons_self | refine List.mem_cons_of_mem _ ?_))) (X.out.lies (d := .l L3) (cs := [.slice Bu3 n3 ku3]) (by repeat (first | exact List.mem_cons_self | refine List.mem_cons_of_mem _ ?_))) ht3 hm3 (X.out.lies (d := .l L4) (cs := [.slice Bx4 n4 kx4]) (by repeat (first | exact List.mem_cons_self | refine List.mem_cons_of_mem _ ?_))) (X.out.lies (d := .l L4) (cs := [.slice Bu4 n4 ku4]) (by repeat (first | exact List.mem_cons_self | refine List.mem_cons_of_mem _ ?_))) ht4 hm4).mono ?_); rintro e u6 ⟨rfl, hb5⟩; replace X := Lib.hid (X.out.below hb5); clear hb5))
        all_goals (
          try clear p0 p1 p2 p3 p4 x0 x1 x2 x3 x4
          obtain ⟨p0, p1, p2, p3, p4⟩ := (X.out.1.box (g := w4.heap.size) (cs := [.int .i64 g0, .slice By1 m1 ky1, .slice By2 m2 ky2, .slice By3 m3 ky3, .slice By4 m4 ky4]) (by repeat (first | exact List.mem_cons_self | refine List.mem_cons_of_mem _ ?_))).c5
          obtain ⟨x0, x1, x2, x3, x4⟩ := (X.out.1.box (g := W.heap.size + 1) (cs := [.int .i64 g0, .slice D1 m1 d1, .slice D2 m2 d2, .slice D3 m3 d3, .slice D4 m4 d4]) (by repeat (first | exact List.mem_cons_self | refine List.mem_cons_of_mem _ ?_))).c5
          go_wp2_with fail
          replace X := Lib.hid X.out.drew
          go_region_held3 (fun w' => (w'.cell? ⟨w4.heap.size, 0, none⟩ = some (.int .i64 g0) ∧ w'.cell? ⟨w4.heap.size, 1, none⟩ = some (.slice By1 m1 ky1) ∧ w'.cell? ⟨w4.heap.size, 2, none⟩ = some (.slice By2 m2 ky2) ∧ w'.cell? ⟨w4.heap.size, 3, none⟩ = some (.slice By3 m3 ky3) ∧ w'.cell? ⟨w4.heap.size, 4, none⟩ = some (.slice By4 m4 ky4)) ∧ (w'.cell? ⟨W.heap.size + 1, 0, none⟩ = some (.int .i64 g0) ∧ w'.cell? ⟨W.heap.size + 1, 1, none⟩ = some (.slice D1 m1 d1) ∧ w'.cell? ⟨W.heap.size + 1, 2, none⟩ = some (.slice D2 m2 d2) ∧ w'.cell? ⟨W.heap.size + 1, 3, none⟩ = some (.slice D3 m3 d3) ∧ w'.cell? ⟨W.heap.size + 1, 4, none⟩ = some (.slice D4 m4 d4)))
            (first | with_reducible exact ⟨(X.out.c5 (b := w4.heap.size) (v0 := .int .i64 g0) (v1 := .slice By1 m1 ky1) (v2 := .slice By2 m2 ky2) (v3 := .slice By3 m3 ky3) (v4 := .slice By4 m4 ky4) (by repeat (first | exact List.mem_cons_self | refine List.mem_cons_of_mem _ ?_))), (X.out.c5 (b := W.heap.size + 1) (v0 := .int .i64 g0) (v1 := .slice D1 m1 d1) (v2 := .slice D2 m2 d2) (v3 := .slice D3 m3 d3) (v4 := .slice D4 m4 d4) (by repeat (first | exact List.mem_cons_self | refine List.mem_cons_of_mem _ ?_)))⟩ | go_keep)
            (first
            | (go_at_call 30; (with_reducible refine (toVat g0 M1 D1 m1 d1 M2 D2 m2 d2 M3 D3 m3 d3 M4 D4 m4 d4 _ (X.out.lies (d := .l M1) (cs := [.slice D1 m1 d1]) (by repeat (first | exact List.mem_cons_self | refine List.mem_cons_of_mem _ ?_))) htr1 hqr1 (X.out.lies (d := .l M2) (cs := [.slice D2 m2 d2]) (by repeat (first | exact List.mem_cons_self | refine List.mem_cons_of_mem _ ?_))) htr2 hqr2 (X.out.lies (d := .l M3) (cs := [.slice D3 m3 d3]) (by repeat (first | exact List.mem_cons_self | refine List.mem_cons_of_mem _ ?_))) htr3 hqr3 (X.out.lies (d := .l M4) (cs := [.slice D4 m4 d4]) (by repeat (first | exact List.mem_cons_self | refine List.mem_cons_of_mem _ ?_))) htr4 hqr4).mono ?_); rintro e u5 ⟨Bv1, kv1, Bv2, kv2, Bv3, kv3, Bv4, kv4, a1, a2, a3, rfl, hO1, hO2, hO3, hO4, -, -, -, -, hb5⟩; replace X := Lib.hid (((((X.out.below hb5).lie hO1.lies).lie hO2.lies).lie hO3.lies).lie hO4.lies); clear hb5 hO1 hO2 hO3 hO4)
            | (go_at_call 23; (with_reducible refine (eqVat g0 M1 By1 m1 ky1 M2 By2 m2 ky2 M3 By3 m3 ky3 M4 By4 m4 ky4 Bv1 kv1 Bv2 kv2 Bv3 kv3 Bv4 kv4 _ (X.out.lies (d := .l M1) (cs := [.slice By1 m1 ky1]) (by repeat (first | exact List.mem_cons_self | refine List.mem_cons_of_mem _ ?_))) (X.out.lies (d := .l M1) (cs := [.slice Bv1 m1 kv1]) (by repeat (first | exact List.mem_cons_self | refine List.mem_cons_of_mem _ ?_))) htr1 hmr1 (X.out.lies (d := .l M2) (cs := [.slice By2 m2 ky2]) (by repeat (first | exact List.mem_cons_self | refine List.mem_cons_of_mem _ ?_))) (X.out.lies (d := .l M2) (cs := [.slice Bv2 m2 kv2]) (by repeat (first | exact List.mem_cons_self | refine List.mem_cons_of_mem _ ?_))) htr2 hmr2 (X.out.lies (d := .l M3) (cs := [.slice By3 m3 ky3]) (by repeat (first | exact List.mem_cons_self | refine List.mem_cons_of_mem _ ?_))) (X.out.lies (d := .l M3) (cs := [.slice Bv3 m3 kv3]) (by repeat (first | exact List.mem_cons_self | refine List.mem_cons_of_mem _ ?_))) htr3 hmr3 (X.out.lies (d := .l M4) (cs := [.slice By4 m4 ky4]) (by repeat (first | exact List.mem_cons_self | refine List.mem_cons_of_mem _ ?_))) (X.out.lies (d := .l M4) (cs := [.slice Bv4 m4 kv4]) (by repeat (first | exact List.mem_cons_self | refine List.mem_cons_of_mem _ ?_))) htr4 hmr4).mono ?_); rintro e u6 ⟨rfl, hb5⟩; replace X := Lib.hid (X.out.below hb5); clear hb5))
          all_goals (
            try clear p0 p1 p2 p3 p4 x0 x1 x2 x3 x4
            go_wp2_with fail
            go_ret
            exact GivesBool.ret X.out.low)))
end Go.Proofs.Ytmeacgpebpfpbaa
end
section
namespace Go.Proofs.Ytmeacgpebpfpbaa
open Go.RowKit Go.Joins Go.ChangeShapes Go.WideShapes Go.Deep
section
variable {H : Type} {enc : TypeId × Value → H} {P : Program} {W : World} {b0 : Nat} {v : Value} {d : DataW H} {p : List MemPlace}
theorem open_recd {t : Ty} {T : TypeId} {fs : Array Field} (ht : tiedB P t T = true) (hs : P.underlying T = some (.struct fs)) (hv : Value.okWide P W .any b0 T v) (h : DataW.Trod enc P W 0 (fun _ => true) true T v d p) (hlt : ∀ x ∈ p, x.block < W.heap.size) :
    ∃ (l : List Value) (dd : Dat), v = .agg ⟨l⟩ ∧ Has t dd ∧ Lies W dd l := by
  obtain ⟨⟨l⟩, rfl, -⟩ := okWide_struct hs hv
  obtain ⟨fuel, hf⟩ := h
  obtain ⟨dd, hT, hL⟩ := open_dat t T _ _ _ ht hf hlt
  exact ⟨l, dd, rfl, hT, hL⟩

theorem open_sld {t : Ty} {T E : TypeId} (ht : tiedB P (.sl t) T = true) (hs : P.underlying T = some (.slice E)) (hv : Value.okWide P W .any b0 T v) (h : DataW.Trod enc P W 0 (fun _ => true) true T v d p) (hlt : ∀ x ∈ p, x.block < W.heap.size) :
    ∃ (L : List Dat) (A : Option Addr) (n c : Nat), v = .slice A n c ∧ Lies W (.l L) [.slice A n c] ∧ (∀ x ∈ L, Has t x) ∧ n ≤ 9223372036854775807 := by
  obtain ⟨A, n, c, rfl⟩ := okWide_slice hs hv
  obtain ⟨fuel, hf⟩ := h
  obtain ⟨dd, hT, hL⟩ := open_dat (.sl t) T _ _ _ ht hf hlt
  rw [Has] at hT
  obtain ⟨L, rfl, hl, hT⟩ := hT
  have hL' : Lies W (.l L) [.slice A n c] := hL
  exact ⟨L, A, n, c, rfl, hL', hT, by rw [← hL'.count]; exact hl⟩
end
end Go.Proofs.Ytmeacgpebpfpbaa
end
section
namespace Go.Proofs.Ytmeacgpebpfpbaa
open Go.RowKit Go.Joins Go.ChangeShapes Go.WideShapes Go.Deep
set_option maxRecDepth 100000 in
theorem openVat {H : Type} {enc : TypeId × Value → H} {W : World} {b0 : Nat} {v : Value} {d : DataW H} {p : List MemPlace} (hv : Value.okWide Try.prog W .any b0 60 v) (h : DataW.Trod enc Try.prog W 0 (fun _ => true) true 60 v d p) (hlt : ∀ x ∈ p, x.block < W.heap.size) :
    ∃ (f0 : Int) (L1 : List Dat) (A1 : Option Addr) (n1 c1 : Nat) (L2 : List Dat) (A2 : Option Addr) (n2 c2 : Nat) (L3 : List Dat) (A3 : Option Addr) (n3 c3 : Nat) (L4 : List Dat) (A4 : Option Addr) (n4 c4 : Nat), v = .agg #[.int .i64 f0, .slice A1 n1 c1, .slice A2 n2 c2, .slice A3 n3 c3, .slice A4 n4 c4] ∧ Lies W (.l L1) [.slice A1 n1 c1] ∧ (∀ x ∈ L1, Has tyEntity x) ∧ n1 ≤ 9223372036854775807 ∧ Lies W (.l L2) [.slice A2 n2 c2] ∧ (∀ x ∈ L2, Has tySent x) ∧ n2 ≤ 9223372036854775807 ∧ Lies W (.l L3) [.slice A3 n3 c3] ∧ (∀ x ∈ L3, Has tyLink x) ∧ n3 ≤ 9223372036854775807 ∧ Lies W (.l L4) [.slice A4 n4 c4] ∧ (∀ x ∈ L4, Has tyOutgoing x) ∧ n4 ≤ 9223372036854775807 := by
  obtain ⟨l, dd, rfl, hT, hL⟩ := open_recd tiedVat Try.underlying60 hv h hlt
  obtain ⟨f0, L1, A1, n1, c1, L2, A2, n2, c2, L3, A3, n3, c3, L4, A4, n4, c4, rfl, rfl, hl1, ht1, hm1, hl2, ht2, hm2, hl3, ht3, hm3, hl4, ht4, hm4⟩ := invVat hT hL
  exact ⟨f0, L1, A1, n1, c1, L2, A2, n2, c2, L3, A3, n3, c3, L4, A4, n4, c4, rfl, hl1, ht1, hm1, hl2, ht2, hm2, hl3, ht3, hm3, hl4, ht4, hm4⟩
end Go.Proofs.Ytmeacgpebpfpbaa
end
section
namespace Go.Proofs.Ytmeacgpebpfpbaa.fnExactEqualVats
open Go.ChangeShapes Go.WideShapes Go.ChangeAt Go.RowKit
open Go.ChangeMaps (open_string)
set_option linter.unusedVariables false

theorem own : ownKnob Try.prog.godebug = none := by kernel_rfl
theorem laidOut : laidOutB Try.prog = true := by kernel_rfl

set_option maxRecDepth 100000 in
theorem contract (H : Type) (enc : TypeId × Value → H) (W : World) (base : Nat) (args : Array Value) (ds gs : List (DataW H)) (before : List MemPlace)
    (hval : ∀ (j : Nat) t v, Try.f9.params[j]? = some t → args[j]? = some v → Value.okWide Try.prog W .any base t v)
    (hW : DataW.Whole enc Try.prog Try.f9.params.toList Rows.fnExactEqualVatsSpec.vars false W args.toList ds gs before)
    (hsz0 : (DataW.weightsEach Try.prog (Try.f9.params.toList ++ Rows.fnExactEqualVatsSpec.plain.varTypes Try.prog) (ds ++ gs)).all (· ≤ reachBytes) = true) :
    Calls Try.prog 9 args W fun e W' => ∃ v, e = .returned v ∧ Rows.fnExactEqualVatsSpec.post enc Try.prog Try.f9 false true false false W args v W' := by
  have hW' := hW
  obtain ⟨p, q, hA0, hV, rfl, hfz, hnd⟩ := hW
  have hA : DataW.TrodAll enc Try.prog W 0 (fun _ => true) true Try.f9.params.toList args.toList ds p := hA0
  have hsz := hsz0
  clear hsz0
  rw [Try.params9] at hA hval hsz
  obtain ⟨v0, vs0, d0, ds0, p0, q0, hargs, rfl, rfl, h0, r0⟩ := trodAll_cons hA
  obtain ⟨v1, vs1, d1, ds1, p1, q1, rfl, rfl, rfl, h1, r1⟩ := trodAll_cons r0
  obtain ⟨rfl, rfl, rfl⟩ := trodAll_nil r1
  obtain rfl : args = #[v0, v1] := by cases args; simp_all
  obtain ⟨rfl, rfl⟩ := trodVars_none hV
  obtain ⟨p0f0, p0L1, p0A1, p0n1, p0c1, p0L2, p0A2, p0n2, p0c2, p0L3, p0A3, p0n3, p0c3, p0L4, p0A4, p0n4, p0c4, rfl, p0hl1, p0ht1, p0hm1, p0hl2, p0ht2, p0hm2, p0hl3, p0ht3, p0hm3, p0hl4, p0ht4, p0hm4⟩ := openVat (hval 0 60 v0 rfl rfl) h0 (fun x hx => hW'.lt x (by simp [hx]))
  obtain ⟨p1f0, p1L1, p1A1, p1n1, p1c1, p1L2, p1A2, p1n2, p1c2, p1L3, p1A3, p1n3, p1c3, p1L4, p1A4, p1n4, p1c4, rfl, p1hl1, p1ht1, p1hm1, p1hl2, p1ht2, p1hm2, p1hl3, p1ht3, p1hm3, p1hl4, p1ht4, p1hm4⟩ := openVat (hval 1 60 v1 rfl rfl) h1 (fun x hx => hW'.lt x (by simp [hx]))
  refine (law_EqualVats p0f0 p0L1 p0A1 p0n1 p0c1 p0L2 p0A2 p0n2 p0c2 p0L3 p0A3 p0n3 p0c3 p0L4 p0A4 p0n4 p0c4 p1f0 p1L1 p1A1 p1n1 p1c1 p1L2 p1A2 p1n2 p1c2 p1L3 p1A3 p1n3 p1c3 p1L4 p1A4 p1n4 p1c4 W p0hl1 p0ht1 p0hm1 p0hl2 p0ht2 p0hm2 p0hl3 p0ht3 p0hm3 p0hl4 p0ht4 p0hm4 p1hl1 p1ht1 p1hm1 p1hl2 p1ht2 p1hm2 p1hl3 p1ht3 p1hm3 p1hl4 p1ht4 p1hm4).mono fun e W' ⟨he, hb⟩ => ?_
  subst he
  exact ⟨_, rfl, law_post laidOut (by kernel_rfl) (t := 4) (by kernel_rfl) Try.underlying4 rfl rfl rfl rfl hW' hb⟩

theorem laid_met (os : Os) : laidMetH Try.prog Rows.fnExactEqualVatsRow.laid ((World.holding Try.prog os ⟨#[], #[], []⟩).forCall (fun _ _ => 0) ⟨#[], #[.agg #[.int .i64 0, .slice none 0 0, .slice none 0 0, .slice none 0 0, .slice none 0 0], .agg #[.int .i64 0, .slice none 0 0, .slice none 0 0, .slice none 0 0, .slice none 0 0]], []⟩).memory :=
  laidMetH_nil _ _
theorem reads (os : Os) {H : Type} (enc : TypeId × Value → H) : ∃ places, DataW.whole enc Try.prog ((World.holding Try.prog os ⟨#[], #[], []⟩).forCall (fun _ _ => 0) ⟨#[], #[.agg #[.int .i64 0, .slice none 0 0, .slice none 0 0, .slice none 0 0, .slice none 0 0], .agg #[.int .i64 0, .slice none 0 0, .slice none 0 0, .slice none 0 0, .slice none 0 0]], []⟩).memory Try.f9.params.toList Rows.fnExactEqualVatsSpec.vars false (#[.agg #[.int .i64 0, .slice none 0 0, .slice none 0 0, .slice none 0 0, .slice none 0 0], .agg #[.int .i64 0, .slice none 0 0, .slice none 0 0, .slice none 0 0, .slice none 0 0]] : Array Value).toList 8 = some ([.agg [.lit (.int .i64 0), .nil, .nil, .nil, .nil], .agg [.lit (.int .i64 0), .nil, .nil, .nil, .nil]], [], places) :=
  ⟨[], by kernel_rfl⟩

set_option maxRecDepth 100000 in
theorem lifted (os : Os) (started : os.Started) (H : Type) (enc : TypeId × Value → H) (F : Stop.Interp) :
    ReturnsInHanded {} Try.checked os 9 .any ((OpenSpec.ofChange Rows.fnExactEqualVatsSpec).preRow enc Try.prog Try.f9 Rows.fnExactEqualVatsRow.domain false Rows.fnExactEqualVatsRow.laid) (((OpenSpec.ofChange Rows.fnExactEqualVatsSpec).at F).post enc Try.prog Try.f9 false true false false) := by
  obtain ⟨places, hx⟩ := reads os enc
  refine returnsInHanded_of_row (C := Try.checked) (s := (OpenSpec.ofChange Rows.fnExactEqualVatsSpec)) own started (by kernel_rfl) Try.func9
    (witness_row_at (enc := enc) (C := Try.checked) false (World.holding Try.prog os ⟨#[], #[], []⟩) #[.agg #[.int .i64 0, .slice none 0 0, .slice none 0 0, .slice none 0 0, .slice none 0 0], .agg #[.int .i64 0, .slice none 0 0, .slice none 0 0, .slice none 0 0, .slice none 0 0]] rfl (by kernel_rfl) (by kernel_rfl) (by kernel_rfl)
      (OpenSpec.preRow_of_cond 8 hx (by kernel_rfl) (fun k hk => by cases hk) (by kernel_rfl) (laid_met os))) ?_
  intro W base args ds gs before hval hW _ hcond hsz hL _ _
  exact contract H enc W base args ds gs before hval hW hsz

theorem said : Rows.FnExactEqualVatsSaid :=
  OpenClaim.holds_of_cond 9 Try.f9 rfl rfl rfl rfl rfl rfl rfl ⟨rfl, rfl, rfl, rfl, rfl⟩ rfl rfl rfl rfl rfl (by kernel_rfl) Try.func9 (by kernel_rfl)
    (of_decide_eq_true (by kernel_rfl)) (by unfold Func.isWrapper; first | (rw [if_pos (by decide +kernel)]; kernel_rfl) | (rw [if_neg (by decide +kernel)]; exact ⟨rfl, rfl⟩))
    (fun os started H enc _ F => by rw [OpenClaim.pre_eq_preRow]; exact lifted os started H enc F)
theorem proved : Rows.FnExactEqualVatsSaid := said
#print axioms proved
end Go.Proofs.Ytmeacgpebpfpbaa.fnExactEqualVats
end
