/- Chapter 10's data, by program. -/
import Derived.Test.YtmeacgpebpfpbaaTyG1
import Derived.LoopTactic
import Derived.Lib.Hide
import Derived.Deep.QuietTactic
import Derived.BigQuiet
import Derived.Deep.RegionWith
import Derived.Handy
namespace Go.Proofs.Ytmeacgpebpfpbaa
open Go.RowKit
set_option linter.unusedVariables false
set_option linter.unusedSimpArgs false
theorem noneExport {L : List Dat} (ht : ∀ x ∈ L, Has tyExport x) : bulkAll L = 0 := bulk_none (t := tyExport) rfl ht
set_option maxRecDepth 100000 in
set_option maxHeartbeats 4000000 in
theorem szExportS (L : List Dat) (A : Option Addr) (n c : Nat) (left : Int) (w : World) (h0 : 0 ≤ left) (h1 : left ≤ 1099511627776) (h : Lies w (.l L) [.slice A n c]) (ht : ∀ x ∈ L, Has tyExport x) (hn : n ≤ 9223372036854775807) : Calls Try.prog 169 #[.slice A n c, .int .i64 left] w (GivesInt (leftD (Dat.l L) left) w) := by
  have hc : (Dat.l L).bulk = n := by rw [Dat.bulk, noneExport ht, h.count]; rfl
  have HC := Lib.hid hc
  clear h ht hc
  by_cases g0 : left - n < 0
  · go_enter Try.func169, Try.ntmps169
    go_wp2
    go_ret
    exact GivesInt.ret (leftD_no (by have := HC.out; omega)) (Below.refl _ _)
  · go_enter Try.func169, Try.ntmps169
    go_wp2
    go_ret
    exact GivesInt.ret (leftD_ok (by have := HC.out; omega) (by have := HC.out; omega)) (Below.refl _ _)
theorem noneQuestion {L : List Dat} (ht : ∀ x ∈ L, Has tyQuestion x) : bulkAll L = 0 := bulk_none (t := tyQuestion) rfl ht
set_option maxRecDepth 100000 in
set_option maxHeartbeats 4000000 in
theorem szQuestionS (L : List Dat) (A : Option Addr) (n c : Nat) (left : Int) (w : World) (h0 : 0 ≤ left) (h1 : left ≤ 1099511627776) (h : Lies w (.l L) [.slice A n c]) (ht : ∀ x ∈ L, Has tyQuestion x) (hn : n ≤ 9223372036854775807) : Calls Try.prog 170 #[.slice A n c, .int .i64 left] w (GivesInt (leftD (Dat.l L) left) w) := by
  have hc : (Dat.l L).bulk = n := by rw [Dat.bulk, noneQuestion ht, h.count]; rfl
  have HC := Lib.hid hc
  clear h ht hc
  by_cases g0 : left - n < 0
  · go_enter Try.func170, Try.ntmps170
    go_wp2
    go_ret
    exact GivesInt.ret (leftD_no (by have := HC.out; omega)) (Below.refl _ _)
  · go_enter Try.func170, Try.ntmps170
    go_wp2
    go_ret
    exact GivesInt.ret (leftD_ok (by have := HC.out; omega) (by have := HC.out; omega)) (Below.refl _ _)
set_option maxHeartbeats 4000000 in
theorem szLink (f0 : Int) (f1 : Bool) (L2 : List Dat) (A2 : Option Addr) (n2 c2 : Nat) (f3 : Int) (L4 : List Dat) (A4 : Option Addr) (n4 c4 : Nat) (f5 : Int) (L6 : List Dat) (A6 : Option Addr) (n6 c6 : Nat) (left : Int) (w : World) (h0 : 0 ≤ left) (h1 : left ≤ 1099511627776) (hl2 : Lies w (.l L2) [.slice A2 n2 c2]) (ht2 : ∀ x ∈ L2, Has tyExport x) (hm2 : n2 ≤ 9223372036854775807) (hl4 : Lies w (.l L4) [.slice A4 n4 c4]) (ht4 : ∀ x ∈ L4, Has tyQuestion x) (hm4 : n4 ≤ 9223372036854775807) (hl6 : Lies w (.l L6) [.slice A6 n6 c6]) (ht6 : ∀ x ∈ L6, Has tyQuestion x) (hm6 : n6 ≤ 9223372036854775807) : Calls Try.prog 148 #[.agg #[.int .i64 f0, .bool f1, .slice A2 n2 c2, .int .i64 f3, .slice A4 n4 c4, .int .i64 f5, .slice A6 n6 c6], .int .i64 left] w (GivesInt (leftD (.r [.i f0, .b f1, .l L2, .i f3, .l L4, .i f5, .l L6]) left) w) := by
  have HL2 := Lib.hid hl2
  have HT2 := Lib.hid ht2
  clear hl2 ht2
  have HL4 := Lib.hid hl4
  have HT4 := Lib.hid ht4
  clear hl4 ht4
  have HL6 := Lib.hid hl6
  have HT6 := Lib.hid ht6
  clear hl6 ht6
  have X := Lib.hid ((Held.start w).push #[.int .i64 f0, .bool f1, .slice A2 n2 c2, .int .i64 f3, .slice A4 n4 c4, .int .i64 f5, .slice A6 n6 c6] 190)
  go_enter Try.func148, Try.ntmps148
  go_wp2_with fail
  refine (szExportS L2 A2 n2 c2 (left) _ (by omega) (by omega) (HL2.out.below (X.out.1)) HT2.out hm2).mono ?_
  rintro e w1 ⟨rfl, hb⟩
  replace X := Lib.hid (X.out.below hb)
  clear hb
  by_cases g2 : left - (Dat.l L2).bulk < 0
  · rw [show leftD (Dat.l L2) (left) = -1 from if_pos g2]
    have hneg : Hid (left - (.r [.i f0, .b f1, .l L2, .i f3, .l L4, .i f5, .l L6] : Dat).bulk < 0) := Lib.hid (by simp only [Dat.bulk, bulkAll] at *; omega)
    go_wp2_with fail
    go_ret
    exact GivesInt.ret (leftD_no hneg.out) X.out.1
  · rw [show leftD (Dat.l L2) (left) = left - (Dat.l L2).bulk from if_neg g2]
    obtain ⟨r2, hr2⟩ : ∃ r, r = left - (Dat.l L2).bulk := ⟨_, rfl⟩
    rw [← hr2]
    have hp2 : 0 ≤ r2 := by omega
    have hu2 : r2 ≤ 1099511627776 := by omega
    have HR2 := Lib.hid hr2
    clear hr2 g2
    have x0 := X.out.at_ (g := w.heap.size) (i := 0) (v := .int .i64 f0) (cs := [.int .i64 f0, .bool f1, .slice A2 n2 c2, .int .i64 f3, .slice A4 n4 c4, .int .i64 f5, .slice A6 n6 c6]) (by repeat (first | exact List.mem_cons_self | refine List.mem_cons_of_mem _ ?_)) rfl
    have x1 := X.out.at_ (g := w.heap.size) (i := 1) (v := .bool f1) (cs := [.int .i64 f0, .bool f1, .slice A2 n2 c2, .int .i64 f3, .slice A4 n4 c4, .int .i64 f5, .slice A6 n6 c6]) (by repeat (first | exact List.mem_cons_self | refine List.mem_cons_of_mem _ ?_)) rfl
    have x2 := X.out.at_ (g := w.heap.size) (i := 2) (v := .slice A2 n2 c2) (cs := [.int .i64 f0, .bool f1, .slice A2 n2 c2, .int .i64 f3, .slice A4 n4 c4, .int .i64 f5, .slice A6 n6 c6]) (by repeat (first | exact List.mem_cons_self | refine List.mem_cons_of_mem _ ?_)) rfl
    have x3 := X.out.at_ (g := w.heap.size) (i := 3) (v := .int .i64 f3) (cs := [.int .i64 f0, .bool f1, .slice A2 n2 c2, .int .i64 f3, .slice A4 n4 c4, .int .i64 f5, .slice A6 n6 c6]) (by repeat (first | exact List.mem_cons_self | refine List.mem_cons_of_mem _ ?_)) rfl
    have x4 := X.out.at_ (g := w.heap.size) (i := 4) (v := .slice A4 n4 c4) (cs := [.int .i64 f0, .bool f1, .slice A2 n2 c2, .int .i64 f3, .slice A4 n4 c4, .int .i64 f5, .slice A6 n6 c6]) (by repeat (first | exact List.mem_cons_self | refine List.mem_cons_of_mem _ ?_)) rfl
    have x5 := X.out.at_ (g := w.heap.size) (i := 5) (v := .int .i64 f5) (cs := [.int .i64 f0, .bool f1, .slice A2 n2 c2, .int .i64 f3, .slice A4 n4 c4, .int .i64 f5, .slice A6 n6 c6]) (by repeat (first | exact List.mem_cons_self | refine List.mem_cons_of_mem _ ?_)) rfl
    have x6 := X.out.at_ (g := w.heap.size) (i := 6) (v := .slice A6 n6 c6) (cs := [.int .i64 f0, .bool f1, .slice A2 n2 c2, .int .i64 f3, .slice A4 n4 c4, .int .i64 f5, .slice A6 n6 c6]) (by repeat (first | exact List.mem_cons_self | refine List.mem_cons_of_mem _ ?_)) rfl
    go_wp2_with fail
    refine (szQuestionS L4 A4 n4 c4 (r2) _ (by omega) (by omega) (HL4.out.below (X.out.1)) HT4.out hm4).mono ?_
    rintro e w2 ⟨rfl, hb⟩
    clear x0 x1 x2 x3 x4 x5 x6
    replace X := Lib.hid (X.out.below hb)
    clear hb
    by_cases g4 : r2 - (Dat.l L4).bulk < 0
    · rw [show leftD (Dat.l L4) (r2) = -1 from if_pos g4]
      have hneg : Hid (left - (.r [.i f0, .b f1, .l L2, .i f3, .l L4, .i f5, .l L6] : Dat).bulk < 0) := Lib.hid (by have q0 := HR2.out; simp only [Dat.bulk, bulkAll] at *; omega)
      go_wp2_with fail
      go_ret
      exact GivesInt.ret (leftD_no hneg.out) X.out.1
    · rw [show leftD (Dat.l L4) (r2) = r2 - (Dat.l L4).bulk from if_neg g4]
      obtain ⟨r4, hr4⟩ : ∃ r, r = r2 - (Dat.l L4).bulk := ⟨_, rfl⟩
      rw [← hr4]
      have hp4 : 0 ≤ r4 := by omega
      have hu4 : r4 ≤ 1099511627776 := by omega
      have HR4 := Lib.hid hr4
      clear hr4 g4
      have x0 := X.out.at_ (g := w.heap.size) (i := 0) (v := .int .i64 f0) (cs := [.int .i64 f0, .bool f1, .slice A2 n2 c2, .int .i64 f3, .slice A4 n4 c4, .int .i64 f5, .slice A6 n6 c6]) (by repeat (first | exact List.mem_cons_self | refine List.mem_cons_of_mem _ ?_)) rfl
      have x1 := X.out.at_ (g := w.heap.size) (i := 1) (v := .bool f1) (cs := [.int .i64 f0, .bool f1, .slice A2 n2 c2, .int .i64 f3, .slice A4 n4 c4, .int .i64 f5, .slice A6 n6 c6]) (by repeat (first | exact List.mem_cons_self | refine List.mem_cons_of_mem _ ?_)) rfl
      have x2 := X.out.at_ (g := w.heap.size) (i := 2) (v := .slice A2 n2 c2) (cs := [.int .i64 f0, .bool f1, .slice A2 n2 c2, .int .i64 f3, .slice A4 n4 c4, .int .i64 f5, .slice A6 n6 c6]) (by repeat (first | exact List.mem_cons_self | refine List.mem_cons_of_mem _ ?_)) rfl
      have x3 := X.out.at_ (g := w.heap.size) (i := 3) (v := .int .i64 f3) (cs := [.int .i64 f0, .bool f1, .slice A2 n2 c2, .int .i64 f3, .slice A4 n4 c4, .int .i64 f5, .slice A6 n6 c6]) (by repeat (first | exact List.mem_cons_self | refine List.mem_cons_of_mem _ ?_)) rfl
      have x4 := X.out.at_ (g := w.heap.size) (i := 4) (v := .slice A4 n4 c4) (cs := [.int .i64 f0, .bool f1, .slice A2 n2 c2, .int .i64 f3, .slice A4 n4 c4, .int .i64 f5, .slice A6 n6 c6]) (by repeat (first | exact List.mem_cons_self | refine List.mem_cons_of_mem _ ?_)) rfl
      have x5 := X.out.at_ (g := w.heap.size) (i := 5) (v := .int .i64 f5) (cs := [.int .i64 f0, .bool f1, .slice A2 n2 c2, .int .i64 f3, .slice A4 n4 c4, .int .i64 f5, .slice A6 n6 c6]) (by repeat (first | exact List.mem_cons_self | refine List.mem_cons_of_mem _ ?_)) rfl
      have x6 := X.out.at_ (g := w.heap.size) (i := 6) (v := .slice A6 n6 c6) (cs := [.int .i64 f0, .bool f1, .slice A2 n2 c2, .int .i64 f3, .slice A4 n4 c4, .int .i64 f5, .slice A6 n6 c6]) (by repeat (first | exact List.mem_cons_self | refine List.mem_cons_of_mem _ ?_)) rfl
      go_wp2_with fail
      refine (szQuestionS L6 A6 n6 c6 (r4) _ (by omega) (by omega) (HL6.out.below (X.out.1)) HT6.out hm6).mono ?_
      rintro e w3 ⟨rfl, hb⟩
      clear x0 x1 x2 x3 x4 x5 x6
      replace X := Lib.hid (X.out.below hb)
      clear hb
      by_cases g6 : r4 - (Dat.l L6).bulk < 0
      · rw [show leftD (Dat.l L6) (r4) = -1 from if_pos g6]
        have hneg : Hid (left - (.r [.i f0, .b f1, .l L2, .i f3, .l L4, .i f5, .l L6] : Dat).bulk < 0) := Lib.hid (by have q0 := HR2.out; have q1 := HR4.out; simp only [Dat.bulk, bulkAll] at *; omega)
        go_wp2_with fail
        go_ret
        exact GivesInt.ret (leftD_no hneg.out) X.out.1
      · rw [show leftD (Dat.l L6) (r4) = r4 - (Dat.l L6).bulk from if_neg g6]
        obtain ⟨r6, hr6⟩ : ∃ r, r = r4 - (Dat.l L6).bulk := ⟨_, rfl⟩
        rw [← hr6]
        have hp6 : 0 ≤ r6 := by omega
        have hu6 : r6 ≤ 1099511627776 := by omega
        have HR6 := Lib.hid hr6
        clear hr6 g6
        have hend : Hid (r6 = leftD (.r [.i f0, .b f1, .l L2, .i f3, .l L4, .i f5, .l L6]) left) := Lib.hid (leftD_ok (by have q0 := HR2.out; have q1 := HR4.out; have q2 := HR6.out; simp only [Dat.bulk, bulkAll] at *; omega) (by have q0 := HR2.out; have q1 := HR4.out; have q2 := HR6.out; simp only [Dat.bulk, bulkAll] at *; omega))
        go_wp2_with fail
        go_ret
        exact GivesInt.ret hend.out X.out.1
end Go.Proofs.Ytmeacgpebpfpbaa
