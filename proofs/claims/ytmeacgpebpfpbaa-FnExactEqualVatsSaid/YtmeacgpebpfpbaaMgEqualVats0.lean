/- Chapter 9's data, by program.
   Chapter 10's data, by program.
   Chapter 10's data, by program.
   Chapter 11's data, by program.
   Chapter 11's data, by program.
   Chapter 12's data, by program.
   Chapter 12's data, by program.
   Chapter 9's data, by program. -/
import Derived.Test.YtmeacgpebpfpbaaTyE3
import Derived.LoopTactic
import Derived.Lib.Hide
import Derived.Deep.QuietTactic
import Derived.BigQuiet
import Derived.Deep.RegionWith
import Derived.Handy
import Derived.Test.YtmeacgpebpfpbaaTyG1
import Derived.Test.YtmeacgpebpfpbaaTyT
import Derived.Test.YtmeacgpebpfpbaaTyM1
import Derived.Test.YtmeacgpebpfpbaaTyV0
import Derived.Test.YtmeacgpebpfpbaaTyE1
section
namespace Go.Proofs.Ytmeacgpebpfpbaa
open Go.RowKit
set_option linter.unusedVariables false
set_option linter.unusedSimpArgs false
set_option maxHeartbeats 4000000 in
theorem eqEntity (f0 : Int) (f1 : Int) (L2 : List Dat) (A2 : Option Addr) (n2 c2 : Nat) (f3 : Int) (f4_0 : Int) (f4_1 : Int) (L5 : List Dat) (A5 : Option Addr) (n5 c5 : Nat) (L6 : List Dat) (A6 : Option Addr) (n6 c6 : Nat) (f7 : Int) (f8 : Int) (f9 : Int) (f10 : Int) (B2 : Option Addr) (k2 : Nat) (B5 : Option Addr) (k5 : Nat) (B6 : Option Addr) (k6 : Nat) (w : World) (hl2 : Lies w (.l L2) [.slice A2 n2 c2]) (hr2 : Lies w (.l L2) [.slice B2 n2 k2]) (ht2 : ∀ x ∈ L2, Has tyValue x) (hm2 : n2 ≤ 9223372036854775807) (hl5 : Lies w (.l L5) [.slice A5 n5 c5]) (hr5 : Lies w (.l L5) [.slice B5 n5 k5]) (ht5 : ∀ x ∈ L5, Has tySent x) (hm5 : n5 ≤ 9223372036854775807) (hl6 : Lies w (.l L6) [.slice A6 n6 c6]) (hr6 : Lies w (.l L6) [.slice B6 n6 k6]) (ht6 : ∀ x ∈ L6, Has tyAsker x) (hm6 : n6 ≤ 9223372036854775807) : Calls Try.prog 38 #[.agg #[.int .i64 f0, .int .i64 f1, .slice A2 n2 c2, .int .i64 f3, .int .i64 f4_0, .int .i64 f4_1, .slice A5 n5 c5, .slice A6 n6 c6, .int .i64 f7, .int .i64 f8, .int .i64 f9, .int .i64 f10], .agg #[.int .i64 f0, .int .i64 f1, .slice B2 n2 k2, .int .i64 f3, .int .i64 f4_0, .int .i64 f4_1, .slice B5 n5 k5, .slice B6 n6 k6, .int .i64 f7, .int .i64 f8, .int .i64 f9, .int .i64 f10]] w (GivesBool true w) := by
  have HL2 := Lib.hid hl2
  have HR2 := Lib.hid hr2
  have HT2 := Lib.hid ht2
  clear hl2 hr2 ht2
  have HL5 := Lib.hid hl5
  have HR5 := Lib.hid hr5
  have HT5 := Lib.hid ht5
  clear hl5 hr5 ht5
  have HL6 := Lib.hid hl6
  have HR6 := Lib.hid hr6
  have HT6 := Lib.hid ht6
  clear hl6 hr6 ht6
  have X := ((Held.start w).push #[.int .i64 f0, .int .i64 f1, .slice A2 n2 c2, .int .i64 f3, .int .i64 f4_0, .int .i64 f4_1, .slice A5 n5 c5, .slice A6 n6 c6, .int .i64 f7, .int .i64 f8, .int .i64 f9, .int .i64 f10] 38).push #[.int .i64 f0, .int .i64 f1, .slice B2 n2 k2, .int .i64 f3, .int .i64 f4_0, .int .i64 f4_1, .slice B5 n5 k5, .slice B6 n6 k6, .int .i64 f7, .int .i64 f8, .int .i64 f9, .int .i64 f10] 38
  simp only [World.size_alloc] at X
  replace X := Lib.hid X
  go_enter Try.func38, Try.ntmps38
  go_wp2_with fail
  refine (eqValueS L2 A2 B2 n2 n2 c2 k2 _ (HL2.out.below X.out.1) (HR2.out.below X.out.1) HT2.out hm2).mono ?_
  rintro e w1 ⟨rfl, hb⟩
  replace X := Lib.hid (X.out.below hb)
  clear hb
  have x0 := X.out.at_ (g := w.heap.size) (i := 0) (v := .int .i64 f0) (cs := [.int .i64 f0, .int .i64 f1, .slice A2 n2 c2, .int .i64 f3, .int .i64 f4_0, .int .i64 f4_1, .slice A5 n5 c5, .slice A6 n6 c6, .int .i64 f7, .int .i64 f8, .int .i64 f9, .int .i64 f10]) (by repeat (first | exact List.mem_cons_self | refine List.mem_cons_of_mem _ ?_)) rfl
  have y0 := X.out.at_ (g := w.heap.size + 1) (i := 0) (v := .int .i64 f0) (cs := [.int .i64 f0, .int .i64 f1, .slice B2 n2 k2, .int .i64 f3, .int .i64 f4_0, .int .i64 f4_1, .slice B5 n5 k5, .slice B6 n6 k6, .int .i64 f7, .int .i64 f8, .int .i64 f9, .int .i64 f10]) (by repeat (first | exact List.mem_cons_self | refine List.mem_cons_of_mem _ ?_)) rfl
  have x1 := X.out.at_ (g := w.heap.size) (i := 1) (v := .int .i64 f1) (cs := [.int .i64 f0, .int .i64 f1, .slice A2 n2 c2, .int .i64 f3, .int .i64 f4_0, .int .i64 f4_1, .slice A5 n5 c5, .slice A6 n6 c6, .int .i64 f7, .int .i64 f8, .int .i64 f9, .int .i64 f10]) (by repeat (first | exact List.mem_cons_self | refine List.mem_cons_of_mem _ ?_)) rfl
  have y1 := X.out.at_ (g := w.heap.size + 1) (i := 1) (v := .int .i64 f1) (cs := [.int .i64 f0, .int .i64 f1, .slice B2 n2 k2, .int .i64 f3, .int .i64 f4_0, .int .i64 f4_1, .slice B5 n5 k5, .slice B6 n6 k6, .int .i64 f7, .int .i64 f8, .int .i64 f9, .int .i64 f10]) (by repeat (first | exact List.mem_cons_self | refine List.mem_cons_of_mem _ ?_)) rfl
  have x2 := X.out.at_ (g := w.heap.size) (i := 2) (v := .slice A2 n2 c2) (cs := [.int .i64 f0, .int .i64 f1, .slice A2 n2 c2, .int .i64 f3, .int .i64 f4_0, .int .i64 f4_1, .slice A5 n5 c5, .slice A6 n6 c6, .int .i64 f7, .int .i64 f8, .int .i64 f9, .int .i64 f10]) (by repeat (first | exact List.mem_cons_self | refine List.mem_cons_of_mem _ ?_)) rfl
  have y2 := X.out.at_ (g := w.heap.size + 1) (i := 2) (v := .slice B2 n2 k2) (cs := [.int .i64 f0, .int .i64 f1, .slice B2 n2 k2, .int .i64 f3, .int .i64 f4_0, .int .i64 f4_1, .slice B5 n5 k5, .slice B6 n6 k6, .int .i64 f7, .int .i64 f8, .int .i64 f9, .int .i64 f10]) (by repeat (first | exact List.mem_cons_self | refine List.mem_cons_of_mem _ ?_)) rfl
  have x3 := X.out.at_ (g := w.heap.size) (i := 3) (v := .int .i64 f3) (cs := [.int .i64 f0, .int .i64 f1, .slice A2 n2 c2, .int .i64 f3, .int .i64 f4_0, .int .i64 f4_1, .slice A5 n5 c5, .slice A6 n6 c6, .int .i64 f7, .int .i64 f8, .int .i64 f9, .int .i64 f10]) (by repeat (first | exact List.mem_cons_self | refine List.mem_cons_of_mem _ ?_)) rfl
  have y3 := X.out.at_ (g := w.heap.size + 1) (i := 3) (v := .int .i64 f3) (cs := [.int .i64 f0, .int .i64 f1, .slice B2 n2 k2, .int .i64 f3, .int .i64 f4_0, .int .i64 f4_1, .slice B5 n5 k5, .slice B6 n6 k6, .int .i64 f7, .int .i64 f8, .int .i64 f9, .int .i64 f10]) (by repeat (first | exact List.mem_cons_self | refine List.mem_cons_of_mem _ ?_)) rfl
  have x4 := X.out.at_ (g := w.heap.size) (i := 4) (v := .int .i64 f4_0) (cs := [.int .i64 f0, .int .i64 f1, .slice A2 n2 c2, .int .i64 f3, .int .i64 f4_0, .int .i64 f4_1, .slice A5 n5 c5, .slice A6 n6 c6, .int .i64 f7, .int .i64 f8, .int .i64 f9, .int .i64 f10]) (by repeat (first | exact List.mem_cons_self | refine List.mem_cons_of_mem _ ?_)) rfl
  have y4 := X.out.at_ (g := w.heap.size + 1) (i := 4) (v := .int .i64 f4_0) (cs := [.int .i64 f0, .int .i64 f1, .slice B2 n2 k2, .int .i64 f3, .int .i64 f4_0, .int .i64 f4_1, .slice B5 n5 k5, .slice B6 n6 k6, .int .i64 f7, .int .i64 f8, .int .i64 f9, .int .i64 f10]) (by repeat (first | exact List.mem_cons_self | refine List.mem_cons_of_mem _ ?_)) rfl
  have x5 := X.out.at_ (g := w.heap.size) (i := 5) (v := .int .i64 f4_1) (cs := [.int .i64 f0, .int .i64 f1, .slice A2 n2 c2, .int .i64 f3, .int .i64 f4_0, .int .i64 f4_1, .slice A5 n5 c5, .slice A6 n6 c6, .int .i64 f7, .int .i64 f8, .int .i64 f9, .int .i64 f10]) (by repeat (first | exact List.mem_cons_self | refine List.mem_cons_of_mem _ ?_)) rfl
  have y5 := X.out.at_ (g := w.heap.size + 1) (i := 5) (v := .int .i64 f4_1) (cs := [.int .i64 f0, .int .i64 f1, .slice B2 n2 k2, .int .i64 f3, .int .i64 f4_0, .int .i64 f4_1, .slice B5 n5 k5, .slice B6 n6 k6, .int .i64 f7, .int .i64 f8, .int .i64 f9, .int .i64 f10]) (by repeat (first | exact List.mem_cons_self | refine List.mem_cons_of_mem _ ?_)) rfl
  have x6 := X.out.at_ (g := w.heap.size) (i := 6) (v := .slice A5 n5 c5) (cs := [.int .i64 f0, .int .i64 f1, .slice A2 n2 c2, .int .i64 f3, .int .i64 f4_0, .int .i64 f4_1, .slice A5 n5 c5, .slice A6 n6 c6, .int .i64 f7, .int .i64 f8, .int .i64 f9, .int .i64 f10]) (by repeat (first | exact List.mem_cons_self | refine List.mem_cons_of_mem _ ?_)) rfl
  have y6 := X.out.at_ (g := w.heap.size + 1) (i := 6) (v := .slice B5 n5 k5) (cs := [.int .i64 f0, .int .i64 f1, .slice B2 n2 k2, .int .i64 f3, .int .i64 f4_0, .int .i64 f4_1, .slice B5 n5 k5, .slice B6 n6 k6, .int .i64 f7, .int .i64 f8, .int .i64 f9, .int .i64 f10]) (by repeat (first | exact List.mem_cons_self | refine List.mem_cons_of_mem _ ?_)) rfl
  have x7 := X.out.at_ (g := w.heap.size) (i := 7) (v := .slice A6 n6 c6) (cs := [.int .i64 f0, .int .i64 f1, .slice A2 n2 c2, .int .i64 f3, .int .i64 f4_0, .int .i64 f4_1, .slice A5 n5 c5, .slice A6 n6 c6, .int .i64 f7, .int .i64 f8, .int .i64 f9, .int .i64 f10]) (by repeat (first | exact List.mem_cons_self | refine List.mem_cons_of_mem _ ?_)) rfl
  have y7 := X.out.at_ (g := w.heap.size + 1) (i := 7) (v := .slice B6 n6 k6) (cs := [.int .i64 f0, .int .i64 f1, .slice B2 n2 k2, .int .i64 f3, .int .i64 f4_0, .int .i64 f4_1, .slice B5 n5 k5, .slice B6 n6 k6, .int .i64 f7, .int .i64 f8, .int .i64 f9, .int .i64 f10]) (by repeat (first | exact List.mem_cons_self | refine List.mem_cons_of_mem _ ?_)) rfl
  have x8 := X.out.at_ (g := w.heap.size) (i := 8) (v := .int .i64 f7) (cs := [.int .i64 f0, .int .i64 f1, .slice A2 n2 c2, .int .i64 f3, .int .i64 f4_0, .int .i64 f4_1, .slice A5 n5 c5, .slice A6 n6 c6, .int .i64 f7, .int .i64 f8, .int .i64 f9, .int .i64 f10]) (by repeat (first | exact List.mem_cons_self | refine List.mem_cons_of_mem _ ?_)) rfl
  have y8 := X.out.at_ (g := w.heap.size + 1) (i := 8) (v := .int .i64 f7) (cs := [.int .i64 f0, .int .i64 f1, .slice B2 n2 k2, .int .i64 f3, .int .i64 f4_0, .int .i64 f4_1, .slice B5 n5 k5, .slice B6 n6 k6, .int .i64 f7, .int .i64 f8, .int .i64 f9, .int .i64 f10]) (by repeat (first | exact List.mem_cons_self | refine List.mem_cons_of_mem _ ?_)) rfl
  have x9 := X.out.at_ (g := w.heap.size) (i := 9) (v := .int .i64 f8) (cs := [.int .i64 f0, .int .i64 f1, .slice A2 n2 c2, .int .i64 f3, .int .i64 f4_0, .int .i64 f4_1, .slice A5 n5 c5, .slice A6 n6 c6, .int .i64 f7, .int .i64 f8, .int .i64 f9, .int .i64 f10]) (by repeat (first | exact List.mem_cons_self | refine List.mem_cons_of_mem _ ?_)) rfl
  have y9 := X.out.at_ (g := w.heap.size + 1) (i := 9) (v := .int .i64 f8) (cs := [.int .i64 f0, .int .i64 f1, .slice B2 n2 k2, .int .i64 f3, .int .i64 f4_0, .int .i64 f4_1, .slice B5 n5 k5, .slice B6 n6 k6, .int .i64 f7, .int .i64 f8, .int .i64 f9, .int .i64 f10]) (by repeat (first | exact List.mem_cons_self | refine List.mem_cons_of_mem _ ?_)) rfl
  have x10 := X.out.at_ (g := w.heap.size) (i := 10) (v := .int .i64 f9) (cs := [.int .i64 f0, .int .i64 f1, .slice A2 n2 c2, .int .i64 f3, .int .i64 f4_0, .int .i64 f4_1, .slice A5 n5 c5, .slice A6 n6 c6, .int .i64 f7, .int .i64 f8, .int .i64 f9, .int .i64 f10]) (by repeat (first | exact List.mem_cons_self | refine List.mem_cons_of_mem _ ?_)) rfl
  have y10 := X.out.at_ (g := w.heap.size + 1) (i := 10) (v := .int .i64 f9) (cs := [.int .i64 f0, .int .i64 f1, .slice B2 n2 k2, .int .i64 f3, .int .i64 f4_0, .int .i64 f4_1, .slice B5 n5 k5, .slice B6 n6 k6, .int .i64 f7, .int .i64 f8, .int .i64 f9, .int .i64 f10]) (by repeat (first | exact List.mem_cons_self | refine List.mem_cons_of_mem _ ?_)) rfl
  have x11 := X.out.at_ (g := w.heap.size) (i := 11) (v := .int .i64 f10) (cs := [.int .i64 f0, .int .i64 f1, .slice A2 n2 c2, .int .i64 f3, .int .i64 f4_0, .int .i64 f4_1, .slice A5 n5 c5, .slice A6 n6 c6, .int .i64 f7, .int .i64 f8, .int .i64 f9, .int .i64 f10]) (by repeat (first | exact List.mem_cons_self | refine List.mem_cons_of_mem _ ?_)) rfl
  have y11 := X.out.at_ (g := w.heap.size + 1) (i := 11) (v := .int .i64 f10) (cs := [.int .i64 f0, .int .i64 f1, .slice B2 n2 k2, .int .i64 f3, .int .i64 f4_0, .int .i64 f4_1, .slice B5 n5 k5, .slice B6 n6 k6, .int .i64 f7, .int .i64 f8, .int .i64 f9, .int .i64 f10]) (by repeat (first | exact List.mem_cons_self | refine List.mem_cons_of_mem _ ?_)) rfl
  go_wp2_with fail
  refine (eqValue f4_0 f4_1 _).mono ?_
  rintro e w2 ⟨rfl, hb⟩
  clear x0 x1 x2 x3 x4 x5 x6 x7 x8 x9 x10 x11 y0 y1 y2 y3 y4 y5 y6 y7 y8 y9 y10 y11
  replace X := Lib.hid (X.out.below hb)
  clear hb
  have x0 := X.out.at_ (g := w.heap.size) (i := 0) (v := .int .i64 f0) (cs := [.int .i64 f0, .int .i64 f1, .slice A2 n2 c2, .int .i64 f3, .int .i64 f4_0, .int .i64 f4_1, .slice A5 n5 c5, .slice A6 n6 c6, .int .i64 f7, .int .i64 f8, .int .i64 f9, .int .i64 f10]) (by repeat (first | exact List.mem_cons_self | refine List.mem_cons_of_mem _ ?_)) rfl
  have y0 := X.out.at_ (g := w.heap.size + 1) (i := 0) (v := .int .i64 f0) (cs := [.int .i64 f0, .int .i64 f1, .slice B2 n2 k2, .int .i64 f3, .int .i64 f4_0, .int .i64 f4_1, .slice B5 n5 k5, .slice B6 n6 k6, .int .i64 f7, .int .i64 f8, .int .i64 f9, .int .i64 f10]) (by repeat (first | exact List.mem_cons_self | refine List.mem_cons_of_mem _ ?_)) rfl
  have x1 := X.out.at_ (g := w.heap.size) (i := 1) (v := .int .i64 f1) (cs := [.int .i64 f0, .int .i64 f1, .slice A2 n2 c2, .int .i64 f3, .int .i64 f4_0, .int .i64 f4_1, .slice A5 n5 c5, .slice A6 n6 c6, .int .i64 f7, .int .i64 f8, .int .i64 f9, .int .i64 f10]) (by repeat (first | exact List.mem_cons_self | refine List.mem_cons_of_mem _ ?_)) rfl
  have y1 := X.out.at_ (g := w.heap.size + 1) (i := 1) (v := .int .i64 f1) (cs := [.int .i64 f0, .int .i64 f1, .slice B2 n2 k2, .int .i64 f3, .int .i64 f4_0, .int .i64 f4_1, .slice B5 n5 k5, .slice B6 n6 k6, .int .i64 f7, .int .i64 f8, .int .i64 f9, .int .i64 f10]) (by repeat (first | exact List.mem_cons_self | refine List.mem_cons_of_mem _ ?_)) rfl
  have x2 := X.out.at_ (g := w.heap.size) (i := 2) (v := .slice A2 n2 c2) (cs := [.int .i64 f0, .int .i64 f1, .slice A2 n2 c2, .int .i64 f3, .int .i64 f4_0, .int .i64 f4_1, .slice A5 n5 c5, .slice A6 n6 c6, .int .i64 f7, .int .i64 f8, .int .i64 f9, .int .i64 f10]) (by repeat (first | exact List.mem_cons_self | refine List.mem_cons_of_mem _ ?_)) rfl
  have y2 := X.out.at_ (g := w.heap.size + 1) (i := 2) (v := .slice B2 n2 k2) (cs := [.int .i64 f0, .int .i64 f1, .slice B2 n2 k2, .int .i64 f3, .int .i64 f4_0, .int .i64 f4_1, .slice B5 n5 k5, .slice B6 n6 k6, .int .i64 f7, .int .i64 f8, .int .i64 f9, .int .i64 f10]) (by repeat (first | exact List.mem_cons_self | refine List.mem_cons_of_mem _ ?_)) rfl
  have x3 := X.out.at_ (g := w.heap.size) (i := 3) (v := .int .i64 f3) (cs := [.int .i64 f0, .int .i64 f1, .slice A2 n2 c2, .int .i64 f3, .int .i64 f4_0, .int .i64 f4_1, .slice A5 n5 c5, .slice A6 n6 c6, .int .i64 f7, .int .i64 f8, .int .i64 f9, .int .i64 f10]) (by repeat (first | exact List.mem_cons_self | refine List.mem_cons_of_mem _ ?_)) rfl
  have y3 := X.out.at_ (g := w.heap.size + 1) (i := 3) (v := .int .i64 f3) (cs := [.int .i64 f0, .int .i64 f1, .slice B2 n2 k2, .int .i64 f3, .int .i64 f4_0, .int .i64 f4_1, .slice B5 n5 k5, .slice B6 n6 k6, .int .i64 f7, .int .i64 f8, .int .i64 f9, .int .i64 f10]) (by repeat (first | exact List.mem_cons_self | refine List.mem_cons_of_mem _ ?_)) rfl
  have x4 := X.out.at_ (g := w.heap.size) (i := 4) (v := .int .i64 f4_0) (cs := [.int .i64 f0, .int .i64 f1, .slice A2 n2 c2, .int .i64 f3, .int .i64 f4_0, .int .i64 f4_1, .slice A5 n5 c5, .slice A6 n6 c6, .int .i64 f7, .int .i64 f8, .int .i64 f9, .int .i64 f10]) (by repeat (first | exact List.mem_cons_self | refine List.mem_cons_of_mem _ ?_)) rfl
  have y4 := X.out.at_ (g := w.heap.size + 1) (i := 4) (v := .int .i64 f4_0) (cs := [.int .i64 f0, .int .i64 f1, .slice B2 n2 k2, .int .i64 f3, .int .i64 f4_0, .int .i64 f4_1, .slice B5 n5 k5, .slice B6 n6 k6, .int .i64 f7, .int .i64 f8, .int .i64 f9, .int .i64 f10]) (by repeat (first | exact List.mem_cons_self | refine List.mem_cons_of_mem _ ?_)) rfl
  have x5 := X.out.at_ (g := w.heap.size) (i := 5) (v := .int .i64 f4_1) (cs := [.int .i64 f0, .int .i64 f1, .slice A2 n2 c2, .int .i64 f3, .int .i64 f4_0, .int .i64 f4_1, .slice A5 n5 c5, .slice A6 n6 c6, .int .i64 f7, .int .i64 f8, .int .i64 f9, .int .i64 f10]) (by repeat (first | exact List.mem_cons_self | refine List.mem_cons_of_mem _ ?_)) rfl
  have y5 := X.out.at_ (g := w.heap.size + 1) (i := 5) (v := .int .i64 f4_1) (cs := [.int .i64 f0, .int .i64 f1, .slice B2 n2 k2, .int .i64 f3, .int .i64 f4_0, .int .i64 f4_1, .slice B5 n5 k5, .slice B6 n6 k6, .int .i64 f7, .int .i64 f8, .int .i64 f9, .int .i64 f10]) (by repeat (first | exact List.mem_cons_self | refine List.mem_cons_of_mem _ ?_)) rfl
  have x6 := X.out.at_ (g := w.heap.size) (i := 6) (v := .slice A5 n5 c5) (cs := [.int .i64 f0, .int .i64 f1, .slice A2 n2 c2, .int .i64 f3, .int .i64 f4_0, .int .i64 f4_1, .slice A5 n5 c5, .slice A6 n6 c6, .int .i64 f7, .int .i64 f8, .int .i64 f9, .int .i64 f10]) (by repeat (first | exact List.mem_cons_self | refine List.mem_cons_of_mem _ ?_)) rfl
  have y6 := X.out.at_ (g := w.heap.size + 1) (i := 6) (v := .slice B5 n5 k5) (cs := [.int .i64 f0, .int .i64 f1, .slice B2 n2 k2, .int .i64 f3, .int .i64 f4_0, .int .i64 f4_1, .slice B5 n5 k5, .slice B6 n6 k6, .int .i64 f7, .int .i64 f8, .int .i64 f9, .int .i64 f10]) (by repeat (first | exact List.mem_cons_self | refine List.mem_cons_of_mem _ ?_)) rfl
  have x7 := X.out.at_ (g := w.heap.size) (i := 7) (v := .slice A6 n6 c6) (cs := [.int .i64 f0, .int .i64 f1, .slice A2 n2 c2, .int .i64 f3, .int .i64 f4_0, .int .i64 f4_1, .slice A5 n5 c5, .slice A6 n6 c6, .int .i64 f7, .int .i64 f8, .int .i64 f9, .int .i64 f10]) (by repeat (first | exact List.mem_cons_self | refine List.mem_cons_of_mem _ ?_)) rfl
  have y7 := X.out.at_ (g := w.heap.size + 1) (i := 7) (v := .slice B6 n6 k6) (cs := [.int .i64 f0, .int .i64 f1, .slice B2 n2 k2, .int .i64 f3, .int .i64 f4_0, .int .i64 f4_1, .slice B5 n5 k5, .slice B6 n6 k6, .int .i64 f7, .int .i64 f8, .int .i64 f9, .int .i64 f10]) (by repeat (first | exact List.mem_cons_self | refine List.mem_cons_of_mem _ ?_)) rfl
  have x8 := X.out.at_ (g := w.heap.size) (i := 8) (v := .int .i64 f7) (cs := [.int .i64 f0, .int .i64 f1, .slice A2 n2 c2, .int .i64 f3, .int .i64 f4_0, .int .i64 f4_1, .slice A5 n5 c5, .slice A6 n6 c6, .int .i64 f7, .int .i64 f8, .int .i64 f9, .int .i64 f10]) (by repeat (first | exact List.mem_cons_self | refine List.mem_cons_of_mem _ ?_)) rfl
  have y8 := X.out.at_ (g := w.heap.size + 1) (i := 8) (v := .int .i64 f7) (cs := [.int .i64 f0, .int .i64 f1, .slice B2 n2 k2, .int .i64 f3, .int .i64 f4_0, .int .i64 f4_1, .slice B5 n5 k5, .slice B6 n6 k6, .int .i64 f7, .int .i64 f8, .int .i64 f9, .int .i64 f10]) (by repeat (first | exact List.mem_cons_self | refine List.mem_cons_of_mem _ ?_)) rfl
  have x9 := X.out.at_ (g := w.heap.size) (i := 9) (v := .int .i64 f8) (cs := [.int .i64 f0, .int .i64 f1, .slice A2 n2 c2, .int .i64 f3, .int .i64 f4_0, .int .i64 f4_1, .slice A5 n5 c5, .slice A6 n6 c6, .int .i64 f7, .int .i64 f8, .int .i64 f9, .int .i64 f10]) (by repeat (first | exact List.mem_cons_self | refine List.mem_cons_of_mem _ ?_)) rfl
  have y9 := X.out.at_ (g := w.heap.size + 1) (i := 9) (v := .int .i64 f8) (cs := [.int .i64 f0, .int .i64 f1, .slice B2 n2 k2, .int .i64 f3, .int .i64 f4_0, .int .i64 f4_1, .slice B5 n5 k5, .slice B6 n6 k6, .int .i64 f7, .int .i64 f8, .int .i64 f9, .int .i64 f10]) (by repeat (first | exact List.mem_cons_self | refine List.mem_cons_of_mem _ ?_)) rfl
  have x10 := X.out.at_ (g := w.heap.size) (i := 10) (v := .int .i64 f9) (cs := [.int .i64 f0, .int .i64 f1, .slice A2 n2 c2, .int .i64 f3, .int .i64 f4_0, .int .i64 f4_1, .slice A5 n5 c5, .slice A6 n6 c6, .int .i64 f7, .int .i64 f8, .int .i64 f9, .int .i64 f10]) (by repeat (first | exact List.mem_cons_self | refine List.mem_cons_of_mem _ ?_)) rfl
  have y10 := X.out.at_ (g := w.heap.size + 1) (i := 10) (v := .int .i64 f9) (cs := [.int .i64 f0, .int .i64 f1, .slice B2 n2 k2, .int .i64 f3, .int .i64 f4_0, .int .i64 f4_1, .slice B5 n5 k5, .slice B6 n6 k6, .int .i64 f7, .int .i64 f8, .int .i64 f9, .int .i64 f10]) (by repeat (first | exact List.mem_cons_self | refine List.mem_cons_of_mem _ ?_)) rfl
  have x11 := X.out.at_ (g := w.heap.size) (i := 11) (v := .int .i64 f10) (cs := [.int .i64 f0, .int .i64 f1, .slice A2 n2 c2, .int .i64 f3, .int .i64 f4_0, .int .i64 f4_1, .slice A5 n5 c5, .slice A6 n6 c6, .int .i64 f7, .int .i64 f8, .int .i64 f9, .int .i64 f10]) (by repeat (first | exact List.mem_cons_self | refine List.mem_cons_of_mem _ ?_)) rfl
  have y11 := X.out.at_ (g := w.heap.size + 1) (i := 11) (v := .int .i64 f10) (cs := [.int .i64 f0, .int .i64 f1, .slice B2 n2 k2, .int .i64 f3, .int .i64 f4_0, .int .i64 f4_1, .slice B5 n5 k5, .slice B6 n6 k6, .int .i64 f7, .int .i64 f8, .int .i64 f9, .int .i64 f10]) (by repeat (first | exact List.mem_cons_self | refine List.mem_cons_of_mem _ ?_)) rfl
  go_wp2_with fail
  refine (eqSentS L5 A5 B5 n5 n5 c5 k5 _ (HL5.out.below X.out.1) (HR5.out.below X.out.1) HT5.out hm5).mono ?_
  rintro e w3 ⟨rfl, hb⟩
  clear x0 x1 x2 x3 x4 x5 x6 x7 x8 x9 x10 x11 y0 y1 y2 y3 y4 y5 y6 y7 y8 y9 y10 y11
  replace X := Lib.hid (X.out.below hb)
  clear hb
  have x0 := X.out.at_ (g := w.heap.size) (i := 0) (v := .int .i64 f0) (cs := [.int .i64 f0, .int .i64 f1, .slice A2 n2 c2, .int .i64 f3, .int .i64 f4_0, .int .i64 f4_1, .slice A5 n5 c5, .slice A6 n6 c6, .int .i64 f7, .int .i64 f8, .int .i64 f9, .int .i64 f10]) (by repeat (first | exact List.mem_cons_self | refine List.mem_cons_of_mem _ ?_)) rfl
  have y0 := X.out.at_ (g := w.heap.size + 1) (i := 0) (v := .int .i64 f0) (cs := [.int .i64 f0, .int .i64 f1, .slice B2 n2 k2, .int .i64 f3, .int .i64 f4_0, .int .i64 f4_1, .slice B5 n5 k5, .slice B6 n6 k6, .int .i64 f7, .int .i64 f8, .int .i64 f9, .int .i64 f10]) (by repeat (first | exact List.mem_cons_self | refine List.mem_cons_of_mem _ ?_)) rfl
  have x1 := X.out.at_ (g := w.heap.size) (i := 1) (v := .int .i64 f1) (cs := [.int .i64 f0, .int .i64 f1, .slice A2 n2 c2, .int .i64 f3, .int .i64 f4_0, .int .i64 f4_1, .slice A5 n5 c5, .slice A6 n6 c6, .int .i64 f7, .int .i64 f8, .int .i64 f9, .int .i64 f10]) (by repeat (first | exact List.mem_cons_self | refine List.mem_cons_of_mem _ ?_)) rfl
  have y1 := X.out.at_ (g := w.heap.size + 1) (i := 1) (v := .int .i64 f1) (cs := [.int .i64 f0, .int .i64 f1, .slice B2 n2 k2, .int .i64 f3, .int .i64 f4_0, .int .i64 f4_1, .slice B5 n5 k5, .slice B6 n6 k6, .int .i64 f7, .int .i64 f8, .int .i64 f9, .int .i64 f10]) (by repeat (first | exact List.mem_cons_self | refine List.mem_cons_of_mem _ ?_)) rfl
  have x2 := X.out.at_ (g := w.heap.size) (i := 2) (v := .slice A2 n2 c2) (cs := [.int .i64 f0, .int .i64 f1, .slice A2 n2 c2, .int .i64 f3, .int .i64 f4_0, .int .i64 f4_1, .slice A5 n5 c5, .slice A6 n6 c6, .int .i64 f7, .int .i64 f8, .int .i64 f9, .int .i64 f10]) (by repeat (first | exact List.mem_cons_self | refine List.mem_cons_of_mem _ ?_)) rfl
  have y2 := X.out.at_ (g := w.heap.size + 1) (i := 2) (v := .slice B2 n2 k2) (cs := [.int .i64 f0, .int .i64 f1, .slice B2 n2 k2, .int .i64 f3, .int .i64 f4_0, .int .i64 f4_1, .slice B5 n5 k5, .slice B6 n6 k6, .int .i64 f7, .int .i64 f8, .int .i64 f9, .int .i64 f10]) (by repeat (first | exact List.mem_cons_self | refine List.mem_cons_of_mem _ ?_)) rfl
  have x3 := X.out.at_ (g := w.heap.size) (i := 3) (v := .int .i64 f3) (cs := [.int .i64 f0, .int .i64 f1, .slice A2 n2 c2, .int .i64 f3, .int .i64 f4_0, .int .i64 f4_1, .slice A5 n5 c5, .slice A6 n6 c6, .int .i64 f7, .int .i64 f8, .int .i64 f9, .int .i64 f10]) (by repeat (first | exact List.mem_cons_self | refine List.mem_cons_of_mem _ ?_)) rfl
  have y3 := X.out.at_ (g := w.heap.size + 1) (i := 3) (v := .int .i64 f3) (cs := [.int .i64 f0, .int .i64 f1, .slice B2 n2 k2, .int .i64 f3, .int .i64 f4_0, .int .i64 f4_1, .slice B5 n5 k5, .slice B6 n6 k6, .int .i64 f7, .int .i64 f8, .int .i64 f9, .int .i64 f10]) (by repeat (first | exact List.mem_cons_self | refine List.mem_cons_of_mem _ ?_)) rfl
  have x4 := X.out.at_ (g := w.heap.size) (i := 4) (v := .int .i64 f4_0) (cs := [.int .i64 f0, .int .i64 f1, .slice A2 n2 c2, .int .i64 f3, .int .i64 f4_0, .int .i64 f4_1, .slice A5 n5 c5, .slice A6 n6 c6, .int .i64 f7, .int .i64 f8, .int .i64 f9, .int .i64 f10]) (by repeat (first | exact List.mem_cons_self | refine List.mem_cons_of_mem _ ?_)) rfl
  have y4 := X.out.at_ (g := w.heap.size + 1) (i := 4) (v := .int .i64 f4_0) (cs := [.int .i64 f0, .int .i64 f1, .slice B2 n2 k2, .int .i64 f3, .int .i64 f4_0, .int .i64 f4_1, .slice B5 n5 k5, .slice B6 n6 k6, .int .i64 f7, .int .i64 f8, .int .i64 f9, .int .i64 f10]) (by repeat (first | exact List.mem_cons_self | refine List.mem_cons_of_mem _ ?_)) rfl
  have x5 := X.out.at_ (g := w.heap.size) (i := 5) (v := .int .i64 f4_1) (cs := [.int .i64 f0, .int .i64 f1, .slice A2 n2 c2, .int .i64 f3, .int .i64 f4_0, .int .i64 f4_1, .slice A5 n5 c5, .slice A6 n6 c6, .int .i64 f7, .int .i64 f8, .int .i64 f9, .int .i64 f10]) (by repeat (first | exact List.mem_cons_self | refine List.mem_cons_of_mem _ ?_)) rfl
  have y5 := X.out.at_ (g := w.heap.size + 1) (i := 5) (v := .int .i64 f4_1) (cs := [.int .i64 f0, .int .i64 f1, .slice B2 n2 k2, .int .i64 f3, .int .i64 f4_0, .int .i64 f4_1, .slice B5 n5 k5, .slice B6 n6 k6, .int .i64 f7, .int .i64 f8, .int .i64 f9, .int .i64 f10]) (by repeat (first | exact List.mem_cons_self | refine List.mem_cons_of_mem _ ?_)) rfl
  have x6 := X.out.at_ (g := w.heap.size) (i := 6) (v := .slice A5 n5 c5) (cs := [.int .i64 f0, .int .i64 f1, .slice A2 n2 c2, .int .i64 f3, .int .i64 f4_0, .int .i64 f4_1, .slice A5 n5 c5, .slice A6 n6 c6, .int .i64 f7, .int .i64 f8, .int .i64 f9, .int .i64 f10]) (by repeat (first | exact List.mem_cons_self | refine List.mem_cons_of_mem _ ?_)) rfl
  have y6 := X.out.at_ (g := w.heap.size + 1) (i := 6) (v := .slice B5 n5 k5) (cs := [.int .i64 f0, .int .i64 f1, .slice B2 n2 k2, .int .i64 f3, .int .i64 f4_0, .int .i64 f4_1, .slice B5 n5 k5, .slice B6 n6 k6, .int .i64 f7, .int .i64 f8, .int .i64 f9, .int .i64 f10]) (by repeat (first | exact List.mem_cons_self | refine List.mem_cons_of_mem _ ?_)) rfl
  have x7 := X.out.at_ (g := w.heap.size) (i := 7) (v := .slice A6 n6 c6) (cs := [.int .i64 f0, .int .i64 f1, .slice A2 n2 c2, .int .i64 f3, .int .i64 f4_0, .int .i64 f4_1, .slice A5 n5 c5, .slice A6 n6 c6, .int .i64 f7, .int .i64 f8, .int .i64 f9, .int .i64 f10]) (by repeat (first | exact List.mem_cons_self | refine List.mem_cons_of_mem _ ?_)) rfl
  have y7 := X.out.at_ (g := w.heap.size + 1) (i := 7) (v := .slice B6 n6 k6) (cs := [.int .i64 f0, .int .i64 f1, .slice B2 n2 k2, .int .i64 f3, .int .i64 f4_0, .int .i64 f4_1, .slice B5 n5 k5, .slice B6 n6 k6, .int .i64 f7, .int .i64 f8, .int .i64 f9, .int .i64 f10]) (by repeat (first | exact List.mem_cons_self | refine List.mem_cons_of_mem _ ?_)) rfl
  have x8 := X.out.at_ (g := w.heap.size) (i := 8) (v := .int .i64 f7) (cs := [.int .i64 f0, .int .i64 f1, .slice A2 n2 c2, .int .i64 f3, .int .i64 f4_0, .int .i64 f4_1, .slice A5 n5 c5, .slice A6 n6 c6, .int .i64 f7, .int .i64 f8, .int .i64 f9, .int .i64 f10]) (by repeat (first | exact List.mem_cons_self | refine List.mem_cons_of_mem _ ?_)) rfl
  have y8 := X.out.at_ (g := w.heap.size + 1) (i := 8) (v := .int .i64 f7) (cs := [.int .i64 f0, .int .i64 f1, .slice B2 n2 k2, .int .i64 f3, .int .i64 f4_0, .int .i64 f4_1, .slice B5 n5 k5, .slice B6 n6 k6, .int .i64 f7, .int .i64 f8, .int .i64 f9, .int .i64 f10]) (by repeat (first | exact List.mem_cons_self | refine List.mem_cons_of_mem _ ?_)) rfl
  have x9 := X.out.at_ (g := w.heap.size) (i := 9) (v := .int .i64 f8) (cs := [.int .i64 f0, .int .i64 f1, .slice A2 n2 c2, .int .i64 f3, .int .i64 f4_0, .int .i64 f4_1, .slice A5 n5 c5, .slice A6 n6 c6, .int .i64 f7, .int .i64 f8, .int .i64 f9, .int .i64 f10]) (by repeat (first | exact List.mem_cons_self | refine List.mem_cons_of_mem _ ?_)) rfl
  have y9 := X.out.at_ (g := w.heap.size + 1) (i := 9) (v := .int .i64 f8) (cs := [.int .i64 f0, .int .i64 f1, .slice B2 n2 k2, .int .i64 f3, .int .i64 f4_0, .int .i64 f4_1, .slice B5 n5 k5, .slice B6 n6 k6, .int .i64 f7, .int .i64 f8, .int .i64 f9, .int .i64 f10]) (by repeat (first | exact List.mem_cons_self | refine List.mem_cons_of_mem _ ?_)) rfl
  have x10 := X.out.at_ (g := w.heap.size) (i := 10) (v := .int .i64 f9) (cs := [.int .i64 f0, .int .i64 f1, .slice A2 n2 c2, .int .i64 f3, .int .i64 f4_0, .int .i64 f4_1, .slice A5 n5 c5, .slice A6 n6 c6, .int .i64 f7, .int .i64 f8, .int .i64 f9, .int .i64 f10]) (by repeat (first | exact List.mem_cons_self | refine List.mem_cons_of_mem _ ?_)) rfl
  have y10 := X.out.at_ (g := w.heap.size + 1) (i := 10) (v := .int .i64 f9) (cs := [.int .i64 f0, .int .i64 f1, .slice B2 n2 k2, .int .i64 f3, .int .i64 f4_0, .int .i64 f4_1, .slice B5 n5 k5, .slice B6 n6 k6, .int .i64 f7, .int .i64 f8, .int .i64 f9, .int .i64 f10]) (by repeat (first | exact List.mem_cons_self | refine List.mem_cons_of_mem _ ?_)) rfl
  have x11 := X.out.at_ (g := w.heap.size) (i := 11) (v := .int .i64 f10) (cs := [.int .i64 f0, .int .i64 f1, .slice A2 n2 c2, .int .i64 f3, .int .i64 f4_0, .int .i64 f4_1, .slice A5 n5 c5, .slice A6 n6 c6, .int .i64 f7, .int .i64 f8, .int .i64 f9, .int .i64 f10]) (by repeat (first | exact List.mem_cons_self | refine List.mem_cons_of_mem _ ?_)) rfl
  have y11 := X.out.at_ (g := w.heap.size + 1) (i := 11) (v := .int .i64 f10) (cs := [.int .i64 f0, .int .i64 f1, .slice B2 n2 k2, .int .i64 f3, .int .i64 f4_0, .int .i64 f4_1, .slice B5 n5 k5, .slice B6 n6 k6, .int .i64 f7, .int .i64 f8, .int .i64 f9, .int .i64 f10]) (by repeat (first | exact List.mem_cons_self | refine List.mem_cons_of_mem _ ?_)) rfl
  go_wp2_with fail
  refine (eqAskerS L6 A6 B6 n6 n6 c6 k6 _ (HL6.out.below X.out.1) (HR6.out.below X.out.1) HT6.out hm6).mono ?_
  rintro e w4 ⟨rfl, hb⟩
  clear x0 x1 x2 x3 x4 x5 x6 x7 x8 x9 x10 x11 y0 y1 y2 y3 y4 y5 y6 y7 y8 y9 y10 y11
  replace X := Lib.hid (X.out.below hb)
  clear hb
  have x0 := X.out.at_ (g := w.heap.size) (i := 0) (v := .int .i64 f0) (cs := [.int .i64 f0, .int .i64 f1, .slice A2 n2 c2, .int .i64 f3, .int .i64 f4_0, .int .i64 f4_1, .slice A5 n5 c5, .slice A6 n6 c6, .int .i64 f7, .int .i64 f8, .int .i64 f9, .int .i64 f10]) (by repeat (first | exact List.mem_cons_self | refine List.mem_cons_of_mem _ ?_)) rfl
  have y0 := X.out.at_ (g := w.heap.size + 1) (i := 0) (v := .int .i64 f0) (cs := [.int .i64 f0, .int .i64 f1, .slice B2 n2 k2, .int .i64 f3, .int .i64 f4_0, .int .i64 f4_1, .slice B5 n5 k5, .slice B6 n6 k6, .int .i64 f7, .int .i64 f8, .int .i64 f9, .int .i64 f10]) (by repeat (first | exact List.mem_cons_self | refine List.mem_cons_of_mem _ ?_)) rfl
  have x1 := X.out.at_ (g := w.heap.size) (i := 1) (v := .int .i64 f1) (cs := [.int .i64 f0, .int .i64 f1, .slice A2 n2 c2, .int .i64 f3, .int .i64 f4_0, .int .i64 f4_1, .slice A5 n5 c5, .slice A6 n6 c6, .int .i64 f7, .int .i64 f8, .int .i64 f9, .int .i64 f10]) (by repeat (first | exact List.mem_cons_self | refine List.mem_cons_of_mem _ ?_)) rfl
  have y1 := X.out.at_ (g := w.heap.size + 1) (i := 1) (v := .int .i64 f1) (cs := [.int .i64 f0, .int .i64 f1, .slice B2 n2 k2, .int .i64 f3, .int .i64 f4_0, .int .i64 f4_1, .slice B5 n5 k5, .slice B6 n6 k6, .int .i64 f7, .int .i64 f8, .int .i64 f9, .int .i64 f10]) (by repeat (first | exact List.mem_cons_self | refine List.mem_cons_of_mem _ ?_)) rfl
  have x2 := X.out.at_ (g := w.heap.size) (i := 2) (v := .slice A2 n2 c2) (cs := [.int .i64 f0, .int .i64 f1, .slice A2 n2 c2, .int .i64 f3, .int .i64 f4_0, .int .i64 f4_1, .slice A5 n5 c5, .slice A6 n6 c6, .int .i64 f7, .int .i64 f8, .int .i64 f9, .int .i64 f10]) (by repeat (first | exact List.mem_cons_self | refine List.mem_cons_of_mem _ ?_)) rfl
  have y2 := X.out.at_ (g := w.heap.size + 1) (i := 2) (v := .slice B2 n2 k2) (cs := [.int .i64 f0, .int .i64 f1, .slice B2 n2 k2, .int .i64 f3, .int .i64 f4_0, .int .i64 f4_1, .slice B5 n5 k5, .slice B6 n6 k6, .int .i64 f7, .int .i64 f8, .int .i64 f9, .int .i64 f10]) (by repeat (first | exact List.mem_cons_self | refine List.mem_cons_of_mem _ ?_)) rfl
  have x3 := X.out.at_ (g := w.heap.size) (i := 3) (v := .int .i64 f3) (cs := [.int .i64 f0, .int .i64 f1, .slice A2 n2 c2, .int .i64 f3, .int .i64 f4_0, .int .i64 f4_1, .slice A5 n5 c5, .slice A6 n6 c6, .int .i64 f7, .int .i64 f8, .int .i64 f9, .int .i64 f10]) (by repeat (first | exact List.mem_cons_self | refine List.mem_cons_of_mem _ ?_)) rfl
  have y3 := X.out.at_ (g := w.heap.size + 1) (i := 3) (v := .int .i64 f3) (cs := [.int .i64 f0, .int .i64 f1, .slice B2 n2 k2, .int .i64 f3, .int .i64 f4_0, .int .i64 f4_1, .slice B5 n5 k5, .slice B6 n6 k6, .int .i64 f7, .int .i64 f8, .int .i64 f9, .int .i64 f10]) (by repeat (first | exact List.mem_cons_self | refine List.mem_cons_of_mem _ ?_)) rfl
  have x4 := X.out.at_ (g := w.heap.size) (i := 4) (v := .int .i64 f4_0) (cs := [.int .i64 f0, .int .i64 f1, .slice A2 n2 c2, .int .i64 f3, .int .i64 f4_0, .int .i64 f4_1, .slice A5 n5 c5, .slice A6 n6 c6, .int .i64 f7, .int .i64 f8, .int .i64 f9, .int .i64 f10]) (by repeat (first | exact List.mem_cons_self | refine List.mem_cons_of_mem _ ?_)) rfl
  have y4 := X.out.at_ (g := w.heap.size + 1) (i := 4) (v := .int .i64 f4_0) (cs := [.int .i64 f0, .int .i64 f1, .slice B2 n2 k2, .int .i64 f3, .int .i64 f4_0, .int .i64 f4_1, .slice B5 n5 k5, .slice B6 n6 k6, .int .i64 f7, .int .i64 f8, .int .i64 f9, .int .i64 f10]) (by repeat (first | exact List.mem_cons_self | refine List.mem_cons_of_mem _ ?_)) rfl
  have x5 := X.out.at_ (g := w.heap.size) (i := 5) (v := .int .i64 f4_1) (cs := [.int .i64 f0, .int .i64 f1, .slice A2 n2 c2, .int .i64 f3, .int .i64 f4_0, .int .i64 f4_1, .slice A5 n5 c5, .slice A6 n6 c6, .int .i64 f7, .int .i64 f8, .int .i64 f9, .int .i64 f10]) (by repeat (first | exact List.mem_cons_self | refine List.mem_cons_of_mem _ ?_)) rfl
  have y5 := X.out.at_ (g := w.heap.size + 1) (i := 5) (v := .int .i64 f4_1) (cs := [.int .i64 f0, .int .i64 f1, .slice B2 n2 k2, .int .i64 f3, .int .i64 f4_0, .int .i64 f4_1, .slice B5 n5 k5, .slice B6 n6 k6, .int .i64 f7, .int .i64 f8, .int .i64 f9, .int .i64 f10]) (by repeat (first | exact List.mem_cons_self | refine List.mem_cons_of_mem _ ?_)) rfl
  have x6 := X.out.at_ (g := w.heap.size) (i := 6) (v := .slice A5 n5 c5) (cs := [.int .i64 f0, .int .i64 f1, .slice A2 n2 c2, .int .i64 f3, .int .i64 f4_0, .int .i64 f4_1, .slice A5 n5 c5, .slice A6 n6 c6, .int .i64 f7, .int .i64 f8, .int .i64 f9, .int .i64 f10]) (by repeat (first | exact List.mem_cons_self | refine List.mem_cons_of_mem _ ?_)) rfl
  have y6 := X.out.at_ (g := w.heap.size + 1) (i := 6) (v := .slice B5 n5 k5) (cs := [.int .i64 f0, .int .i64 f1, .slice B2 n2 k2, .int .i64 f3, .int .i64 f4_0, .int .i64 f4_1, .slice B5 n5 k5, .slice B6 n6 k6, .int .i64 f7, .int .i64 f8, .int .i64 f9, .int .i64 f10]) (by repeat (first | exact List.mem_cons_self | refine List.mem_cons_of_mem _ ?_)) rfl
  have x7 := X.out.at_ (g := w.heap.size) (i := 7) (v := .slice A6 n6 c6) (cs := [.int .i64 f0, .int .i64 f1, .slice A2 n2 c2, .int .i64 f3, .int .i64 f4_0, .int .i64 f4_1, .slice A5 n5 c5, .slice A6 n6 c6, .int .i64 f7, .int .i64 f8, .int .i64 f9, .int .i64 f10]) (by repeat (first | exact List.mem_cons_self | refine List.mem_cons_of_mem _ ?_)) rfl
  have y7 := X.out.at_ (g := w.heap.size + 1) (i := 7) (v := .slice B6 n6 k6) (cs := [.int .i64 f0, .int .i64 f1, .slice B2 n2 k2, .int .i64 f3, .int .i64 f4_0, .int .i64 f4_1, .slice B5 n5 k5, .slice B6 n6 k6, .int .i64 f7, .int .i64 f8, .int .i64 f9, .int .i64 f10]) (by repeat (first | exact List.mem_cons_self | refine List.mem_cons_of_mem _ ?_)) rfl
  have x8 := X.out.at_ (g := w.heap.size) (i := 8) (v := .int .i64 f7) (cs := [.int .i64 f0, .int .i64 f1, .slice A2 n2 c2, .int .i64 f3, .int .i64 f4_0, .int .i64 f4_1, .slice A5 n5 c5, .slice A6 n6 c6, .int .i64 f7, .int .i64 f8, .int .i64 f9, .int .i64 f10]) (by repeat (first | exact List.mem_cons_self | refine List.mem_cons_of_mem _ ?_)) rfl
  have y8 := X.out.at_ (g := w.heap.size + 1) (i := 8) (v := .int .i64 f7) (cs := [.int .i64 f0, .int .i64 f1, .slice B2 n2 k2, .int .i64 f3, .int .i64 f4_0, .int .i64 f4_1, .slice B5 n5 k5, .slice B6 n6 k6, .int .i64 f7, .int .i64 f8, .int .i64 f9, .int .i64 f10]) (by repeat (first | exact List.mem_cons_self | refine List.mem_cons_of_mem _ ?_)) rfl
  have x9 := X.out.at_ (g := w.heap.size) (i := 9) (v := .int .i64 f8) (cs := [.int .i64 f0, .int .i64 f1, .slice A2 n2 c2, .int .i64 f3, .int .i64 f4_0, .int .i64 f4_1, .slice A5 n5 c5, .slice A6 n6 c6, .int .i64 f7, .int .i64 f8, .int .i64 f9, .int .i64 f10]) (by repeat (first | exact List.mem_cons_self | refine List.mem_cons_of_mem _ ?_)) rfl
  have y9 := X.out.at_ (g := w.heap.size + 1) (i := 9) (v := .int .i64 f8) (cs := [.int .i64 f0, .int .i64 f1, .slice B2 n2 k2, .int .i64 f3, .int .i64 f4_0, .int .i64 f4_1, .slice B5 n5 k5, .slice B6 n6 k6, .int .i64 f7, .int .i64 f8, .int .i64 f9, .int .i64 f10]) (by repeat (first | exact List.mem_cons_self | refine List.mem_cons_of_mem _ ?_)) rfl
  have x10 := X.out.at_ (g := w.heap.size) (i := 10) (v := .int .i64 f9) (cs := [.int .i64 f0, .int .i64 f1, .slice A2 n2 c2, .int .i64 f3, .int .i64 f4_0, .int .i64 f4_1, .slice A5 n5 c5, .slice A6 n6 c6, .int .i64 f7, .int .i64 f8, .int .i64 f9, .int .i64 f10]) (by repeat (first | exact List.mem_cons_self | refine List.mem_cons_of_mem _ ?_)) rfl
  have y10 := X.out.at_ (g := w.heap.size + 1) (i := 10) (v := .int .i64 f9) (cs := [.int .i64 f0, .int .i64 f1, .slice B2 n2 k2, .int .i64 f3, .int .i64 f4_0, .int .i64 f4_1, .slice B5 n5 k5, .slice B6 n6 k6, .int .i64 f7, .int .i64 f8, .int .i64 f9, .int .i64 f10]) (by repeat (first | exact List.mem_cons_self | refine List.mem_cons_of_mem _ ?_)) rfl
  have x11 := X.out.at_ (g := w.heap.size) (i := 11) (v := .int .i64 f10) (cs := [.int .i64 f0, .int .i64 f1, .slice A2 n2 c2, .int .i64 f3, .int .i64 f4_0, .int .i64 f4_1, .slice A5 n5 c5, .slice A6 n6 c6, .int .i64 f7, .int .i64 f8, .int .i64 f9, .int .i64 f10]) (by repeat (first | exact List.mem_cons_self | refine List.mem_cons_of_mem _ ?_)) rfl
  have y11 := X.out.at_ (g := w.heap.size + 1) (i := 11) (v := .int .i64 f10) (cs := [.int .i64 f0, .int .i64 f1, .slice B2 n2 k2, .int .i64 f3, .int .i64 f4_0, .int .i64 f4_1, .slice B5 n5 k5, .slice B6 n6 k6, .int .i64 f7, .int .i64 f8, .int .i64 f9, .int .i64 f10]) (by repeat (first | exact List.mem_cons_self | refine List.mem_cons_of_mem _ ?_)) rfl
  go_wp2_with fail
  go_ret
  exact GivesBool.ret X.out.1
end Go.Proofs.Ytmeacgpebpfpbaa
end
section
namespace Go.Proofs.Ytmeacgpebpfpbaa
open Go.RowKit
set_option linter.unusedVariables false
set_option linter.unusedSimpArgs false
set_option maxHeartbeats 4000000 in
theorem eqExport (f0 : Int) (f1 : Int) (f2 : Int) (w : World) : Calls Try.prog 179 #[.agg #[.int .i64 f0, .int .i64 f1, .int .i64 f2], .agg #[.int .i64 f0, .int .i64 f1, .int .i64 f2]] w (GivesBool true w) := by
  go_enter Try.func179, Try.ntmps179
  go_wp2
  go_ret
  exact GivesBool.ret (by go_grown)
set_option maxRecDepth 100000 in
set_option maxHeartbeats 4000000 in
theorem eqExportS (L : List Dat) (A A' : Option Addr) (n n' c c' : Nat) (w : World) (h : Lies w (.l L) [.slice A n c]) (h' : Lies w (.l L) [.slice A' n' c']) (ht : ∀ x ∈ L, Has tyExport x) (hn : n ≤ 9223372036854775807) : Calls Try.prog 166 #[.slice A n c, .slice A' n' c'] w (GivesBool true w) := by
  obtain rfl : n = n' := by rw [← h.count, ← h'.count]
  have H := Lib.hid h
  have H' := Lib.hid h'
  have HT := Lib.hid ht
  clear h h' ht
  go_enter Try.func166, Try.ntmps166
  go_wp2
  go_loopw [5] (fun iv wr => ∃ i : Nat, i ≤ n ∧ iv = .int .i64 i ∧ Below w.heap.size w wr) (fun iv _ => n - (intOf iv).toNat)
  case atStart => exact ⟨0, Nat.zero_le _, rfl, Below.refl _ _⟩
  case round =>
    obtain ⟨i, hin, rfl, hb⟩ := hrel
    by_cases hlt : i < n
    · obtain ⟨b, off, d, xs, rfl, hbw, hzi, hlie, hlen, hcellr⟩ := (H.out.below hb).elem (fun x hx => (HT.out x hx).width) hlt
      obtain ⟨b', off', d', xs', rfl, hbw', hzi', hlie', hlen', hcells⟩ := (H'.out.below hb).elem (fun x hx => (HT.out x hx).width) hlt
      obtain rfl : d = d' := by rw [hzi] at hzi'; exact Option.some.inj hzi'
      obtain ⟨g0, g1, g2, hdd, rfl⟩ := invExport (HT.out d (List.mem_of_getElem? hzi)) hlie'
      obtain ⟨f0, f1, f2, rfl, rfl⟩ := invExport (HT.out d (List.mem_of_getElem? hzi)) hlie
      simp only [Dat.r.injEq, List.cons.injEq, and_true] at hdd
      obtain ⟨e0, e1, e2⟩ := hdd
      obtain rfl : f0 = g0 := by injection e0
      obtain rfl : f1 = g1 := by injection e1
      obtain rfl : f2 = g2 := by injection e2
      have r0 : wr.cell? ⟨b, off + i * 3, none⟩ = some (.int .i64 f0) := hcellr 0 _ rfl
      have r1 : wr.cell? ⟨b, off + i * 3 + 1, none⟩ = some (.int .i64 f1) := hcellr 1 _ rfl
      have r2 : wr.cell? ⟨b, off + i * 3 + 2, none⟩ = some (.int .i64 f2) := hcellr 2 _ rfl
      have s0 : wr.cell? ⟨b', off' + i * 3, none⟩ = some (.int .i64 f0) := hcells 0 _ rfl
      have s1 : wr.cell? ⟨b', off' + i * 3 + 1, none⟩ = some (.int .i64 f1) := hcells 1 _ rfl
      have s2 : wr.cell? ⟨b', off' + i * 3 + 2, none⟩ = some (.int .i64 f2) := hcells 2 _ rfl
      have HBR := Lib.hid hb
      clear hzi hzi' hb hcellr hcells hlie hlie'
      go_wp2_with fail
      go_region_with (
        go_at_call 179
        refine (eqExport f0 f1 f2 _).mono ?_
        rintro e w2 ⟨rfl, hb2⟩
        have HB2 : Hid (Below w.heap.size w w2) := Lib.hid (HBR.out.drew.trans (hb2.mono HBR.out.size))
        clear hb2)
      all_goals (
        go_wp2_with fail
        go_roundw
        case rel => exact ⟨i + 1, by omega, by go_num, HB2.out⟩
        case measure => simp [intOf]; omega)
    · have HB := Lib.hid hb
      clear hb
      go_wp2
      go_ret
      exact GivesBool.ret HB.out
set_option maxHeartbeats 4000000 in
theorem eqQuestion (f0 : Int) (f1 : Int) (w : World) : Calls Try.prog 180 #[.agg #[.int .i64 f0, .int .i64 f1], .agg #[.int .i64 f0, .int .i64 f1]] w (GivesBool true w) := by
  go_enter Try.func180, Try.ntmps180
  go_wp2
  go_ret
  exact GivesBool.ret (by go_grown)
set_option maxRecDepth 100000 in
set_option maxHeartbeats 4000000 in
theorem eqQuestionS (L : List Dat) (A A' : Option Addr) (n n' c c' : Nat) (w : World) (h : Lies w (.l L) [.slice A n c]) (h' : Lies w (.l L) [.slice A' n' c']) (ht : ∀ x ∈ L, Has tyQuestion x) (hn : n ≤ 9223372036854775807) : Calls Try.prog 167 #[.slice A n c, .slice A' n' c'] w (GivesBool true w) := by
  obtain rfl : n = n' := by rw [← h.count, ← h'.count]
  have H := Lib.hid h
  have H' := Lib.hid h'
  have HT := Lib.hid ht
  clear h h' ht
  go_enter Try.func167, Try.ntmps167
  go_wp2
  go_loopw [5] (fun iv wr => ∃ i : Nat, i ≤ n ∧ iv = .int .i64 i ∧ Below w.heap.size w wr) (fun iv _ => n - (intOf iv).toNat)
  case atStart => exact ⟨0, Nat.zero_le _, rfl, Below.refl _ _⟩
  case round =>
    obtain ⟨i, hin, rfl, hb⟩ := hrel
    by_cases hlt : i < n
    · obtain ⟨b, off, d, xs, rfl, hbw, hzi, hlie, hlen, hcellr⟩ := (H.out.below hb).elem (fun x hx => (HT.out x hx).width) hlt
      obtain ⟨b', off', d', xs', rfl, hbw', hzi', hlie', hlen', hcells⟩ := (H'.out.below hb).elem (fun x hx => (HT.out x hx).width) hlt
      obtain rfl : d = d' := by rw [hzi] at hzi'; exact Option.some.inj hzi'
      obtain ⟨g0, g1, hdd, rfl⟩ := invQuestion (HT.out d (List.mem_of_getElem? hzi)) hlie'
      obtain ⟨f0, f1, rfl, rfl⟩ := invQuestion (HT.out d (List.mem_of_getElem? hzi)) hlie
      simp only [Dat.r.injEq, List.cons.injEq, and_true] at hdd
      obtain ⟨e0, e1⟩ := hdd
      obtain rfl : f0 = g0 := by injection e0
      obtain rfl : f1 = g1 := by injection e1
      have r0 : wr.cell? ⟨b, off + i * 2, none⟩ = some (.int .i64 f0) := hcellr 0 _ rfl
      have r1 : wr.cell? ⟨b, off + i * 2 + 1, none⟩ = some (.int .i64 f1) := hcellr 1 _ rfl
      have s0 : wr.cell? ⟨b', off' + i * 2, none⟩ = some (.int .i64 f0) := hcells 0 _ rfl
      have s1 : wr.cell? ⟨b', off' + i * 2 + 1, none⟩ = some (.int .i64 f1) := hcells 1 _ rfl
      have HBR := Lib.hid hb
      clear hzi hzi' hb hcellr hcells hlie hlie'
      go_wp2_with fail
      go_region_with (
        go_at_call 180
        refine (eqQuestion f0 f1 _).mono ?_
        rintro e w2 ⟨rfl, hb2⟩
        have HB2 : Hid (Below w.heap.size w w2) := Lib.hid (HBR.out.drew.trans (hb2.mono HBR.out.size))
        clear hb2)
      all_goals (
        go_wp2_with fail
        go_roundw
        case rel => exact ⟨i + 1, by omega, by go_num, HB2.out⟩
        case measure => simp [intOf]; omega)
    · have HB := Lib.hid hb
      clear hb
      go_wp2
      go_ret
      exact GivesBool.ret HB.out
end Go.Proofs.Ytmeacgpebpfpbaa
end
section
namespace Go.Proofs.Ytmeacgpebpfpbaa
open Go.RowKit
set_option linter.unusedVariables false
set_option linter.unusedSimpArgs false
set_option maxHeartbeats 4000000 in
theorem eqLink (f0 : Int) (f1 : Bool) (L2 : List Dat) (A2 : Option Addr) (n2 c2 : Nat) (f3 : Int) (L4 : List Dat) (A4 : Option Addr) (n4 c4 : Nat) (f5 : Int) (L6 : List Dat) (A6 : Option Addr) (n6 c6 : Nat) (B2 : Option Addr) (k2 : Nat) (B4 : Option Addr) (k4 : Nat) (B6 : Option Addr) (k6 : Nat) (w : World) (hl2 : Lies w (.l L2) [.slice A2 n2 c2]) (hr2 : Lies w (.l L2) [.slice B2 n2 k2]) (ht2 : ∀ x ∈ L2, Has tyExport x) (hm2 : n2 ≤ 9223372036854775807) (hl4 : Lies w (.l L4) [.slice A4 n4 c4]) (hr4 : Lies w (.l L4) [.slice B4 n4 k4]) (ht4 : ∀ x ∈ L4, Has tyQuestion x) (hm4 : n4 ≤ 9223372036854775807) (hl6 : Lies w (.l L6) [.slice A6 n6 c6]) (hr6 : Lies w (.l L6) [.slice B6 n6 k6]) (ht6 : ∀ x ∈ L6, Has tyQuestion x) (hm6 : n6 ≤ 9223372036854775807) : Calls Try.prog 136 #[.agg #[.int .i64 f0, .bool f1, .slice A2 n2 c2, .int .i64 f3, .slice A4 n4 c4, .int .i64 f5, .slice A6 n6 c6], .agg #[.int .i64 f0, .bool f1, .slice B2 n2 k2, .int .i64 f3, .slice B4 n4 k4, .int .i64 f5, .slice B6 n6 k6]] w (GivesBool true w) := by
  have HL2 := Lib.hid hl2
  have HR2 := Lib.hid hr2
  have HT2 := Lib.hid ht2
  clear hl2 hr2 ht2
  have HL4 := Lib.hid hl4
  have HR4 := Lib.hid hr4
  have HT4 := Lib.hid ht4
  clear hl4 hr4 ht4
  have HL6 := Lib.hid hl6
  have HR6 := Lib.hid hr6
  have HT6 := Lib.hid ht6
  clear hl6 hr6 ht6
  have X := ((Held.start w).push #[.int .i64 f0, .bool f1, .slice A2 n2 c2, .int .i64 f3, .slice A4 n4 c4, .int .i64 f5, .slice A6 n6 c6] 97).push #[.int .i64 f0, .bool f1, .slice B2 n2 k2, .int .i64 f3, .slice B4 n4 k4, .int .i64 f5, .slice B6 n6 k6] 97
  simp only [World.size_alloc] at X
  replace X := Lib.hid X
  go_enter Try.func136, Try.ntmps136
  go_wp2_with fail
  refine (eqExportS L2 A2 B2 n2 n2 c2 k2 _ (HL2.out.below X.out.1) (HR2.out.below X.out.1) HT2.out hm2).mono ?_
  rintro e w1 ⟨rfl, hb⟩
  replace X := Lib.hid (X.out.below hb)
  clear hb
  have x0 := X.out.at_ (g := w.heap.size) (i := 0) (v := .int .i64 f0) (cs := [.int .i64 f0, .bool f1, .slice A2 n2 c2, .int .i64 f3, .slice A4 n4 c4, .int .i64 f5, .slice A6 n6 c6]) (by repeat (first | exact List.mem_cons_self | refine List.mem_cons_of_mem _ ?_)) rfl
  have y0 := X.out.at_ (g := w.heap.size + 1) (i := 0) (v := .int .i64 f0) (cs := [.int .i64 f0, .bool f1, .slice B2 n2 k2, .int .i64 f3, .slice B4 n4 k4, .int .i64 f5, .slice B6 n6 k6]) (by repeat (first | exact List.mem_cons_self | refine List.mem_cons_of_mem _ ?_)) rfl
  have x1 := X.out.at_ (g := w.heap.size) (i := 1) (v := .bool f1) (cs := [.int .i64 f0, .bool f1, .slice A2 n2 c2, .int .i64 f3, .slice A4 n4 c4, .int .i64 f5, .slice A6 n6 c6]) (by repeat (first | exact List.mem_cons_self | refine List.mem_cons_of_mem _ ?_)) rfl
  have y1 := X.out.at_ (g := w.heap.size + 1) (i := 1) (v := .bool f1) (cs := [.int .i64 f0, .bool f1, .slice B2 n2 k2, .int .i64 f3, .slice B4 n4 k4, .int .i64 f5, .slice B6 n6 k6]) (by repeat (first | exact List.mem_cons_self | refine List.mem_cons_of_mem _ ?_)) rfl
  have x2 := X.out.at_ (g := w.heap.size) (i := 2) (v := .slice A2 n2 c2) (cs := [.int .i64 f0, .bool f1, .slice A2 n2 c2, .int .i64 f3, .slice A4 n4 c4, .int .i64 f5, .slice A6 n6 c6]) (by repeat (first | exact List.mem_cons_self | refine List.mem_cons_of_mem _ ?_)) rfl
  have y2 := X.out.at_ (g := w.heap.size + 1) (i := 2) (v := .slice B2 n2 k2) (cs := [.int .i64 f0, .bool f1, .slice B2 n2 k2, .int .i64 f3, .slice B4 n4 k4, .int .i64 f5, .slice B6 n6 k6]) (by repeat (first | exact List.mem_cons_self | refine List.mem_cons_of_mem _ ?_)) rfl
  have x3 := X.out.at_ (g := w.heap.size) (i := 3) (v := .int .i64 f3) (cs := [.int .i64 f0, .bool f1, .slice A2 n2 c2, .int .i64 f3, .slice A4 n4 c4, .int .i64 f5, .slice A6 n6 c6]) (by repeat (first | exact List.mem_cons_self | refine List.mem_cons_of_mem _ ?_)) rfl
  have y3 := X.out.at_ (g := w.heap.size + 1) (i := 3) (v := .int .i64 f3) (cs := [.int .i64 f0, .bool f1, .slice B2 n2 k2, .int .i64 f3, .slice B4 n4 k4, .int .i64 f5, .slice B6 n6 k6]) (by repeat (first | exact List.mem_cons_self | refine List.mem_cons_of_mem _ ?_)) rfl
  have x4 := X.out.at_ (g := w.heap.size) (i := 4) (v := .slice A4 n4 c4) (cs := [.int .i64 f0, .bool f1, .slice A2 n2 c2, .int .i64 f3, .slice A4 n4 c4, .int .i64 f5, .slice A6 n6 c6]) (by repeat (first | exact List.mem_cons_self | refine List.mem_cons_of_mem _ ?_)) rfl
  have y4 := X.out.at_ (g := w.heap.size + 1) (i := 4) (v := .slice B4 n4 k4) (cs := [.int .i64 f0, .bool f1, .slice B2 n2 k2, .int .i64 f3, .slice B4 n4 k4, .int .i64 f5, .slice B6 n6 k6]) (by repeat (first | exact List.mem_cons_self | refine List.mem_cons_of_mem _ ?_)) rfl
  have x5 := X.out.at_ (g := w.heap.size) (i := 5) (v := .int .i64 f5) (cs := [.int .i64 f0, .bool f1, .slice A2 n2 c2, .int .i64 f3, .slice A4 n4 c4, .int .i64 f5, .slice A6 n6 c6]) (by repeat (first | exact List.mem_cons_self | refine List.mem_cons_of_mem _ ?_)) rfl
  have y5 := X.out.at_ (g := w.heap.size + 1) (i := 5) (v := .int .i64 f5) (cs := [.int .i64 f0, .bool f1, .slice B2 n2 k2, .int .i64 f3, .slice B4 n4 k4, .int .i64 f5, .slice B6 n6 k6]) (by repeat (first | exact List.mem_cons_self | refine List.mem_cons_of_mem _ ?_)) rfl
  have x6 := X.out.at_ (g := w.heap.size) (i := 6) (v := .slice A6 n6 c6) (cs := [.int .i64 f0, .bool f1, .slice A2 n2 c2, .int .i64 f3, .slice A4 n4 c4, .int .i64 f5, .slice A6 n6 c6]) (by repeat (first | exact List.mem_cons_self | refine List.mem_cons_of_mem _ ?_)) rfl
  have y6 := X.out.at_ (g := w.heap.size + 1) (i := 6) (v := .slice B6 n6 k6) (cs := [.int .i64 f0, .bool f1, .slice B2 n2 k2, .int .i64 f3, .slice B4 n4 k4, .int .i64 f5, .slice B6 n6 k6]) (by repeat (first | exact List.mem_cons_self | refine List.mem_cons_of_mem _ ?_)) rfl
  go_wp2_with fail
  refine (eqQuestionS L4 A4 B4 n4 n4 c4 k4 _ (HL4.out.below X.out.1) (HR4.out.below X.out.1) HT4.out hm4).mono ?_
  rintro e w2 ⟨rfl, hb⟩
  clear x0 x1 x2 x3 x4 x5 x6 y0 y1 y2 y3 y4 y5 y6
  replace X := Lib.hid (X.out.below hb)
  clear hb
  have x0 := X.out.at_ (g := w.heap.size) (i := 0) (v := .int .i64 f0) (cs := [.int .i64 f0, .bool f1, .slice A2 n2 c2, .int .i64 f3, .slice A4 n4 c4, .int .i64 f5, .slice A6 n6 c6]) (by repeat (first | exact List.mem_cons_self | refine List.mem_cons_of_mem _ ?_)) rfl
  have y0 := X.out.at_ (g := w.heap.size + 1) (i := 0) (v := .int .i64 f0) (cs := [.int .i64 f0, .bool f1, .slice B2 n2 k2, .int .i64 f3, .slice B4 n4 k4, .int .i64 f5, .slice B6 n6 k6]) (by repeat (first | exact List.mem_cons_self | refine List.mem_cons_of_mem _ ?_)) rfl
  have x1 := X.out.at_ (g := w.heap.size) (i := 1) (v := .bool f1) (cs := [.int .i64 f0, .bool f1, .slice A2 n2 c2, .int .i64 f3, .slice A4 n4 c4, .int .i64 f5, .slice A6 n6 c6]) (by repeat (first | exact List.mem_cons_self | refine List.mem_cons_of_mem _ ?_)) rfl
  have y1 := X.out.at_ (g := w.heap.size + 1) (i := 1) (v := .bool f1) (cs := [.int .i64 f0, .bool f1, .slice B2 n2 k2, .int .i64 f3, .slice B4 n4 k4, .int .i64 f5, .slice B6 n6 k6]) (by repeat (first | exact List.mem_cons_self | refine List.mem_cons_of_mem _ ?_)) rfl
  have x2 := X.out.at_ (g := w.heap.size) (i := 2) (v := .slice A2 n2 c2) (cs := [.int .i64 f0, .bool f1, .slice A2 n2 c2, .int .i64 f3, .slice A4 n4 c4, .int .i64 f5, .slice A6 n6 c6]) (by repeat (first | exact List.mem_cons_self | refine List.mem_cons_of_mem _ ?_)) rfl
  have y2 := X.out.at_ (g := w.heap.size + 1) (i := 2) (v := .slice B2 n2 k2) (cs := [.int .i64 f0, .bool f1, .slice B2 n2 k2, .int .i64 f3, .slice B4 n4 k4, .int .i64 f5, .slice B6 n6 k6]) (by repeat (first | exact List.mem_cons_self | refine List.mem_cons_of_mem _ ?_)) rfl
  have x3 := X.out.at_ (g := w.heap.size) (i := 3) (v := .int .i64 f3) (cs := [.int .i64 f0, .bool f1, .slice A2 n2 c2, .int .i64 f3, .slice A4 n4 c4, .int .i64 f5, .slice A6 n6 c6]) (by repeat (first | exact List.mem_cons_self | refine List.mem_cons_of_mem _ ?_)) rfl
  have y3 := X.out.at_ (g := w.heap.size + 1) (i := 3) (v := .int .i64 f3) (cs := [.int .i64 f0, .bool f1, .slice B2 n2 k2, .int .i64 f3, .slice B4 n4 k4, .int .i64 f5, .slice B6 n6 k6]) (by repeat (first | exact List.mem_cons_self | refine List.mem_cons_of_mem _ ?_)) rfl
  have x4 := X.out.at_ (g := w.heap.size) (i := 4) (v := .slice A4 n4 c4) (cs := [.int .i64 f0, .bool f1, .slice A2 n2 c2, .int .i64 f3, .slice A4 n4 c4, .int .i64 f5, .slice A6 n6 c6]) (by repeat (first | exact List.mem_cons_self | refine List.mem_cons_of_mem _ ?_)) rfl
  have y4 := X.out.at_ (g := w.heap.size + 1) (i := 4) (v := .slice B4 n4 k4) (cs := [.int .i64 f0, .bool f1, .slice B2 n2 k2, .int .i64 f3, .slice B4 n4 k4, .int .i64 f5, .slice B6 n6 k6]) (by repeat (first | exact List.mem_cons_self | refine List.mem_cons_of_mem _ ?_)) rfl
  have x5 := X.out.at_ (g := w.heap.size) (i := 5) (v := .int .i64 f5) (cs := [.int .i64 f0, .bool f1, .slice A2 n2 c2, .int .i64 f3, .slice A4 n4 c4, .int .i64 f5, .slice A6 n6 c6]) (by repeat (first | exact List.mem_cons_self | refine List.mem_cons_of_mem _ ?_)) rfl
  have y5 := X.out.at_ (g := w.heap.size + 1) (i := 5) (v := .int .i64 f5) (cs := [.int .i64 f0, .bool f1, .slice B2 n2 k2, .int .i64 f3, .slice B4 n4 k4, .int .i64 f5, .slice B6 n6 k6]) (by repeat (first | exact List.mem_cons_self | refine List.mem_cons_of_mem _ ?_)) rfl
  have x6 := X.out.at_ (g := w.heap.size) (i := 6) (v := .slice A6 n6 c6) (cs := [.int .i64 f0, .bool f1, .slice A2 n2 c2, .int .i64 f3, .slice A4 n4 c4, .int .i64 f5, .slice A6 n6 c6]) (by repeat (first | exact List.mem_cons_self | refine List.mem_cons_of_mem _ ?_)) rfl
  have y6 := X.out.at_ (g := w.heap.size + 1) (i := 6) (v := .slice B6 n6 k6) (cs := [.int .i64 f0, .bool f1, .slice B2 n2 k2, .int .i64 f3, .slice B4 n4 k4, .int .i64 f5, .slice B6 n6 k6]) (by repeat (first | exact List.mem_cons_self | refine List.mem_cons_of_mem _ ?_)) rfl
  go_wp2_with fail
  refine (eqQuestionS L6 A6 B6 n6 n6 c6 k6 _ (HL6.out.below X.out.1) (HR6.out.below X.out.1) HT6.out hm6).mono ?_
  rintro e w3 ⟨rfl, hb⟩
  clear x0 x1 x2 x3 x4 x5 x6 y0 y1 y2 y3 y4 y5 y6
  replace X := Lib.hid (X.out.below hb)
  clear hb
  go_wp2_with fail
  go_ret
  exact GivesBool.ret X.out.1
end Go.Proofs.Ytmeacgpebpfpbaa
end
section
namespace Go.Proofs.Ytmeacgpebpfpbaa
open Go.RowKit
set_option linter.unusedVariables false
set_option linter.unusedSimpArgs false
set_option maxHeartbeats 4000000 in
theorem eqWire (f0 : Int) (f1 : Int) (w : World) : Calls Try.prog 182 #[.agg #[.int .i64 f0, .int .i64 f1], .agg #[.int .i64 f0, .int .i64 f1]] w (GivesBool true w) := by
  go_enter Try.func182, Try.ntmps182
  go_wp2
  go_ret
  exact GivesBool.ret (by go_grown)
set_option maxRecDepth 100000 in
set_option maxHeartbeats 4000000 in
theorem eqWireS (L : List Dat) (A A' : Option Addr) (n n' c c' : Nat) (w : World) (h : Lies w (.l L) [.slice A n c]) (h' : Lies w (.l L) [.slice A' n' c']) (ht : ∀ x ∈ L, Has tyWire x) (hn : n ≤ 9223372036854775807) : Calls Try.prog 181 #[.slice A n c, .slice A' n' c'] w (GivesBool true w) := by
  obtain rfl : n = n' := by rw [← h.count, ← h'.count]
  have H := Lib.hid h
  have H' := Lib.hid h'
  have HT := Lib.hid ht
  clear h h' ht
  go_enter Try.func181, Try.ntmps181
  go_wp2
  go_loopw [5] (fun iv wr => ∃ i : Nat, i ≤ n ∧ iv = .int .i64 i ∧ Below w.heap.size w wr) (fun iv _ => n - (intOf iv).toNat)
  case atStart => exact ⟨0, Nat.zero_le _, rfl, Below.refl _ _⟩
  case round =>
    obtain ⟨i, hin, rfl, hb⟩ := hrel
    by_cases hlt : i < n
    · obtain ⟨b, off, d, xs, rfl, hbw, hzi, hlie, hlen, hcellr⟩ := (H.out.below hb).elem (fun x hx => (HT.out x hx).width) hlt
      obtain ⟨b', off', d', xs', rfl, hbw', hzi', hlie', hlen', hcells⟩ := (H'.out.below hb).elem (fun x hx => (HT.out x hx).width) hlt
      obtain rfl : d = d' := by rw [hzi] at hzi'; exact Option.some.inj hzi'
      obtain ⟨g0, g1, hdd, rfl⟩ := invWire (HT.out d (List.mem_of_getElem? hzi)) hlie'
      obtain ⟨f0, f1, rfl, rfl⟩ := invWire (HT.out d (List.mem_of_getElem? hzi)) hlie
      simp only [Dat.r.injEq, List.cons.injEq, and_true] at hdd
      obtain ⟨e0, e1⟩ := hdd
      obtain rfl : f0 = g0 := by injection e0
      obtain rfl : f1 = g1 := by injection e1
      have r0 : wr.cell? ⟨b, off + i * 2, none⟩ = some (.int .i64 f0) := hcellr 0 _ rfl
      have r1 : wr.cell? ⟨b, off + i * 2 + 1, none⟩ = some (.int .i64 f1) := hcellr 1 _ rfl
      have s0 : wr.cell? ⟨b', off' + i * 2, none⟩ = some (.int .i64 f0) := hcells 0 _ rfl
      have s1 : wr.cell? ⟨b', off' + i * 2 + 1, none⟩ = some (.int .i64 f1) := hcells 1 _ rfl
      have HBR := Lib.hid hb
      clear hzi hzi' hb hcellr hcells hlie hlie'
      go_wp2_with fail
      go_region_with (
        go_at_call 182
        refine (eqWire f0 f1 _).mono ?_
        rintro e w2 ⟨rfl, hb2⟩
        have HB2 : Hid (Below w.heap.size w w2) := Lib.hid (HBR.out.drew.trans (hb2.mono HBR.out.size))
        clear hb2)
      all_goals (
        go_wp2_with fail
        go_roundw
        case rel => exact ⟨i + 1, by omega, by go_num, HB2.out⟩
        case measure => simp [intOf]; omega)
    · have HB := Lib.hid hb
      clear hb
      go_wp2
      go_ret
      exact GivesBool.ret HB.out
end Go.Proofs.Ytmeacgpebpfpbaa
end
section
namespace Go.Proofs.Ytmeacgpebpfpbaa
open Go.RowKit
set_option linter.unusedVariables false
set_option linter.unusedSimpArgs false
set_option maxHeartbeats 4000000 in
theorem eqMessage (f0 : Int) (f1 : Int) (f2 : Int) (f3 : Int) (f4 : ByteArray) (L5 : List Dat) (A5 : Option Addr) (n5 c5 : Nat) (f6_0 : Int) (f6_1 : Int) (f7 : Int) (f8_0 : Int) (f8_1 : Int) (f8_2 : Int) (B5 : Option Addr) (k5 : Nat) (w : World) (hl5 : Lies w (.l L5) [.slice A5 n5 c5]) (hr5 : Lies w (.l L5) [.slice B5 n5 k5]) (ht5 : ∀ x ∈ L5, Has tyWire x) (hm5 : n5 ≤ 9223372036854775807) : Calls Try.prog 168 #[.agg #[.int .i64 f0, .int .i64 f1, .int .i64 f2, .int .i64 f3, .string f4, .slice A5 n5 c5, .int .i64 f6_0, .int .i64 f6_1, .int .i64 f7, .int .i64 f8_0, .int .i64 f8_1, .int .i64 f8_2], .agg #[.int .i64 f0, .int .i64 f1, .int .i64 f2, .int .i64 f3, .string f4, .slice B5 n5 k5, .int .i64 f6_0, .int .i64 f6_1, .int .i64 f7, .int .i64 f8_0, .int .i64 f8_1, .int .i64 f8_2]] w (GivesBool true w) := by
  have HL5 := Lib.hid hl5
  have HR5 := Lib.hid hr5
  have HT5 := Lib.hid ht5
  clear hl5 hr5 ht5
  have X := ((Held.start w).push #[.int .i64 f0, .int .i64 f1, .int .i64 f2, .int .i64 f3, .string f4, .slice A5 n5 c5, .int .i64 f6_0, .int .i64 f6_1, .int .i64 f7, .int .i64 f8_0, .int .i64 f8_1, .int .i64 f8_2] 112).push #[.int .i64 f0, .int .i64 f1, .int .i64 f2, .int .i64 f3, .string f4, .slice B5 n5 k5, .int .i64 f6_0, .int .i64 f6_1, .int .i64 f7, .int .i64 f8_0, .int .i64 f8_1, .int .i64 f8_2] 112
  simp only [World.size_alloc] at X
  replace X := Lib.hid X
  go_enter Try.func168, Try.ntmps168
  go_wp2_with fail
  refine (eqWireS L5 A5 B5 n5 n5 c5 k5 _ (HL5.out.below X.out.1) (HR5.out.below X.out.1) HT5.out hm5).mono ?_
  rintro e w1 ⟨rfl, hb⟩
  replace X := Lib.hid (X.out.below hb)
  clear hb
  have x0 := X.out.at_ (g := w.heap.size) (i := 0) (v := .int .i64 f0) (cs := [.int .i64 f0, .int .i64 f1, .int .i64 f2, .int .i64 f3, .string f4, .slice A5 n5 c5, .int .i64 f6_0, .int .i64 f6_1, .int .i64 f7, .int .i64 f8_0, .int .i64 f8_1, .int .i64 f8_2]) (by repeat (first | exact List.mem_cons_self | refine List.mem_cons_of_mem _ ?_)) rfl
  have y0 := X.out.at_ (g := w.heap.size + 1) (i := 0) (v := .int .i64 f0) (cs := [.int .i64 f0, .int .i64 f1, .int .i64 f2, .int .i64 f3, .string f4, .slice B5 n5 k5, .int .i64 f6_0, .int .i64 f6_1, .int .i64 f7, .int .i64 f8_0, .int .i64 f8_1, .int .i64 f8_2]) (by repeat (first | exact List.mem_cons_self | refine List.mem_cons_of_mem _ ?_)) rfl
  have x1 := X.out.at_ (g := w.heap.size) (i := 1) (v := .int .i64 f1) (cs := [.int .i64 f0, .int .i64 f1, .int .i64 f2, .int .i64 f3, .string f4, .slice A5 n5 c5, .int .i64 f6_0, .int .i64 f6_1, .int .i64 f7, .int .i64 f8_0, .int .i64 f8_1, .int .i64 f8_2]) (by repeat (first | exact List.mem_cons_self | refine List.mem_cons_of_mem _ ?_)) rfl
  have y1 := X.out.at_ (g := w.heap.size + 1) (i := 1) (v := .int .i64 f1) (cs := [.int .i64 f0, .int .i64 f1, .int .i64 f2, .int .i64 f3, .string f4, .slice B5 n5 k5, .int .i64 f6_0, .int .i64 f6_1, .int .i64 f7, .int .i64 f8_0, .int .i64 f8_1, .int .i64 f8_2]) (by repeat (first | exact List.mem_cons_self | refine List.mem_cons_of_mem _ ?_)) rfl
  have x2 := X.out.at_ (g := w.heap.size) (i := 2) (v := .int .i64 f2) (cs := [.int .i64 f0, .int .i64 f1, .int .i64 f2, .int .i64 f3, .string f4, .slice A5 n5 c5, .int .i64 f6_0, .int .i64 f6_1, .int .i64 f7, .int .i64 f8_0, .int .i64 f8_1, .int .i64 f8_2]) (by repeat (first | exact List.mem_cons_self | refine List.mem_cons_of_mem _ ?_)) rfl
  have y2 := X.out.at_ (g := w.heap.size + 1) (i := 2) (v := .int .i64 f2) (cs := [.int .i64 f0, .int .i64 f1, .int .i64 f2, .int .i64 f3, .string f4, .slice B5 n5 k5, .int .i64 f6_0, .int .i64 f6_1, .int .i64 f7, .int .i64 f8_0, .int .i64 f8_1, .int .i64 f8_2]) (by repeat (first | exact List.mem_cons_self | refine List.mem_cons_of_mem _ ?_)) rfl
  have x3 := X.out.at_ (g := w.heap.size) (i := 3) (v := .int .i64 f3) (cs := [.int .i64 f0, .int .i64 f1, .int .i64 f2, .int .i64 f3, .string f4, .slice A5 n5 c5, .int .i64 f6_0, .int .i64 f6_1, .int .i64 f7, .int .i64 f8_0, .int .i64 f8_1, .int .i64 f8_2]) (by repeat (first | exact List.mem_cons_self | refine List.mem_cons_of_mem _ ?_)) rfl
  have y3 := X.out.at_ (g := w.heap.size + 1) (i := 3) (v := .int .i64 f3) (cs := [.int .i64 f0, .int .i64 f1, .int .i64 f2, .int .i64 f3, .string f4, .slice B5 n5 k5, .int .i64 f6_0, .int .i64 f6_1, .int .i64 f7, .int .i64 f8_0, .int .i64 f8_1, .int .i64 f8_2]) (by repeat (first | exact List.mem_cons_self | refine List.mem_cons_of_mem _ ?_)) rfl
  have x4 := X.out.at_ (g := w.heap.size) (i := 4) (v := .string f4) (cs := [.int .i64 f0, .int .i64 f1, .int .i64 f2, .int .i64 f3, .string f4, .slice A5 n5 c5, .int .i64 f6_0, .int .i64 f6_1, .int .i64 f7, .int .i64 f8_0, .int .i64 f8_1, .int .i64 f8_2]) (by repeat (first | exact List.mem_cons_self | refine List.mem_cons_of_mem _ ?_)) rfl
  have y4 := X.out.at_ (g := w.heap.size + 1) (i := 4) (v := .string f4) (cs := [.int .i64 f0, .int .i64 f1, .int .i64 f2, .int .i64 f3, .string f4, .slice B5 n5 k5, .int .i64 f6_0, .int .i64 f6_1, .int .i64 f7, .int .i64 f8_0, .int .i64 f8_1, .int .i64 f8_2]) (by repeat (first | exact List.mem_cons_self | refine List.mem_cons_of_mem _ ?_)) rfl
  have x5 := X.out.at_ (g := w.heap.size) (i := 5) (v := .slice A5 n5 c5) (cs := [.int .i64 f0, .int .i64 f1, .int .i64 f2, .int .i64 f3, .string f4, .slice A5 n5 c5, .int .i64 f6_0, .int .i64 f6_1, .int .i64 f7, .int .i64 f8_0, .int .i64 f8_1, .int .i64 f8_2]) (by repeat (first | exact List.mem_cons_self | refine List.mem_cons_of_mem _ ?_)) rfl
  have y5 := X.out.at_ (g := w.heap.size + 1) (i := 5) (v := .slice B5 n5 k5) (cs := [.int .i64 f0, .int .i64 f1, .int .i64 f2, .int .i64 f3, .string f4, .slice B5 n5 k5, .int .i64 f6_0, .int .i64 f6_1, .int .i64 f7, .int .i64 f8_0, .int .i64 f8_1, .int .i64 f8_2]) (by repeat (first | exact List.mem_cons_self | refine List.mem_cons_of_mem _ ?_)) rfl
  have x6 := X.out.at_ (g := w.heap.size) (i := 6) (v := .int .i64 f6_0) (cs := [.int .i64 f0, .int .i64 f1, .int .i64 f2, .int .i64 f3, .string f4, .slice A5 n5 c5, .int .i64 f6_0, .int .i64 f6_1, .int .i64 f7, .int .i64 f8_0, .int .i64 f8_1, .int .i64 f8_2]) (by repeat (first | exact List.mem_cons_self | refine List.mem_cons_of_mem _ ?_)) rfl
  have y6 := X.out.at_ (g := w.heap.size + 1) (i := 6) (v := .int .i64 f6_0) (cs := [.int .i64 f0, .int .i64 f1, .int .i64 f2, .int .i64 f3, .string f4, .slice B5 n5 k5, .int .i64 f6_0, .int .i64 f6_1, .int .i64 f7, .int .i64 f8_0, .int .i64 f8_1, .int .i64 f8_2]) (by repeat (first | exact List.mem_cons_self | refine List.mem_cons_of_mem _ ?_)) rfl
  have x7 := X.out.at_ (g := w.heap.size) (i := 7) (v := .int .i64 f6_1) (cs := [.int .i64 f0, .int .i64 f1, .int .i64 f2, .int .i64 f3, .string f4, .slice A5 n5 c5, .int .i64 f6_0, .int .i64 f6_1, .int .i64 f7, .int .i64 f8_0, .int .i64 f8_1, .int .i64 f8_2]) (by repeat (first | exact List.mem_cons_self | refine List.mem_cons_of_mem _ ?_)) rfl
  have y7 := X.out.at_ (g := w.heap.size + 1) (i := 7) (v := .int .i64 f6_1) (cs := [.int .i64 f0, .int .i64 f1, .int .i64 f2, .int .i64 f3, .string f4, .slice B5 n5 k5, .int .i64 f6_0, .int .i64 f6_1, .int .i64 f7, .int .i64 f8_0, .int .i64 f8_1, .int .i64 f8_2]) (by repeat (first | exact List.mem_cons_self | refine List.mem_cons_of_mem _ ?_)) rfl
  have x8 := X.out.at_ (g := w.heap.size) (i := 8) (v := .int .i64 f7) (cs := [.int .i64 f0, .int .i64 f1, .int .i64 f2, .int .i64 f3, .string f4, .slice A5 n5 c5, .int .i64 f6_0, .int .i64 f6_1, .int .i64 f7, .int .i64 f8_0, .int .i64 f8_1, .int .i64 f8_2]) (by repeat (first | exact List.mem_cons_self | refine List.mem_cons_of_mem _ ?_)) rfl
  have y8 := X.out.at_ (g := w.heap.size + 1) (i := 8) (v := .int .i64 f7) (cs := [.int .i64 f0, .int .i64 f1, .int .i64 f2, .int .i64 f3, .string f4, .slice B5 n5 k5, .int .i64 f6_0, .int .i64 f6_1, .int .i64 f7, .int .i64 f8_0, .int .i64 f8_1, .int .i64 f8_2]) (by repeat (first | exact List.mem_cons_self | refine List.mem_cons_of_mem _ ?_)) rfl
  have x9 := X.out.at_ (g := w.heap.size) (i := 9) (v := .int .i64 f8_0) (cs := [.int .i64 f0, .int .i64 f1, .int .i64 f2, .int .i64 f3, .string f4, .slice A5 n5 c5, .int .i64 f6_0, .int .i64 f6_1, .int .i64 f7, .int .i64 f8_0, .int .i64 f8_1, .int .i64 f8_2]) (by repeat (first | exact List.mem_cons_self | refine List.mem_cons_of_mem _ ?_)) rfl
  have y9 := X.out.at_ (g := w.heap.size + 1) (i := 9) (v := .int .i64 f8_0) (cs := [.int .i64 f0, .int .i64 f1, .int .i64 f2, .int .i64 f3, .string f4, .slice B5 n5 k5, .int .i64 f6_0, .int .i64 f6_1, .int .i64 f7, .int .i64 f8_0, .int .i64 f8_1, .int .i64 f8_2]) (by repeat (first | exact List.mem_cons_self | refine List.mem_cons_of_mem _ ?_)) rfl
  have x10 := X.out.at_ (g := w.heap.size) (i := 10) (v := .int .i64 f8_1) (cs := [.int .i64 f0, .int .i64 f1, .int .i64 f2, .int .i64 f3, .string f4, .slice A5 n5 c5, .int .i64 f6_0, .int .i64 f6_1, .int .i64 f7, .int .i64 f8_0, .int .i64 f8_1, .int .i64 f8_2]) (by repeat (first | exact List.mem_cons_self | refine List.mem_cons_of_mem _ ?_)) rfl
  have y10 := X.out.at_ (g := w.heap.size + 1) (i := 10) (v := .int .i64 f8_1) (cs := [.int .i64 f0, .int .i64 f1, .int .i64 f2, .int .i64 f3, .string f4, .slice B5 n5 k5, .int .i64 f6_0, .int .i64 f6_1, .int .i64 f7, .int .i64 f8_0, .int .i64 f8_1, .int .i64 f8_2]) (by repeat (first | exact List.mem_cons_self | refine List.mem_cons_of_mem _ ?_)) rfl
  have x11 := X.out.at_ (g := w.heap.size) (i := 11) (v := .int .i64 f8_2) (cs := [.int .i64 f0, .int .i64 f1, .int .i64 f2, .int .i64 f3, .string f4, .slice A5 n5 c5, .int .i64 f6_0, .int .i64 f6_1, .int .i64 f7, .int .i64 f8_0, .int .i64 f8_1, .int .i64 f8_2]) (by repeat (first | exact List.mem_cons_self | refine List.mem_cons_of_mem _ ?_)) rfl
  have y11 := X.out.at_ (g := w.heap.size + 1) (i := 11) (v := .int .i64 f8_2) (cs := [.int .i64 f0, .int .i64 f1, .int .i64 f2, .int .i64 f3, .string f4, .slice B5 n5 k5, .int .i64 f6_0, .int .i64 f6_1, .int .i64 f7, .int .i64 f8_0, .int .i64 f8_1, .int .i64 f8_2]) (by repeat (first | exact List.mem_cons_self | refine List.mem_cons_of_mem _ ?_)) rfl
  go_wp2_with fail
  refine (eqWire f6_0 f6_1 _).mono ?_
  rintro e w2 ⟨rfl, hb⟩
  clear x0 x1 x2 x3 x4 x5 x6 x7 x8 x9 x10 x11 y0 y1 y2 y3 y4 y5 y6 y7 y8 y9 y10 y11
  replace X := Lib.hid (X.out.below hb)
  clear hb
  have x0 := X.out.at_ (g := w.heap.size) (i := 0) (v := .int .i64 f0) (cs := [.int .i64 f0, .int .i64 f1, .int .i64 f2, .int .i64 f3, .string f4, .slice A5 n5 c5, .int .i64 f6_0, .int .i64 f6_1, .int .i64 f7, .int .i64 f8_0, .int .i64 f8_1, .int .i64 f8_2]) (by repeat (first | exact List.mem_cons_self | refine List.mem_cons_of_mem _ ?_)) rfl
  have y0 := X.out.at_ (g := w.heap.size + 1) (i := 0) (v := .int .i64 f0) (cs := [.int .i64 f0, .int .i64 f1, .int .i64 f2, .int .i64 f3, .string f4, .slice B5 n5 k5, .int .i64 f6_0, .int .i64 f6_1, .int .i64 f7, .int .i64 f8_0, .int .i64 f8_1, .int .i64 f8_2]) (by repeat (first | exact List.mem_cons_self | refine List.mem_cons_of_mem _ ?_)) rfl
  have x1 := X.out.at_ (g := w.heap.size) (i := 1) (v := .int .i64 f1) (cs := [.int .i64 f0, .int .i64 f1, .int .i64 f2, .int .i64 f3, .string f4, .slice A5 n5 c5, .int .i64 f6_0, .int .i64 f6_1, .int .i64 f7, .int .i64 f8_0, .int .i64 f8_1, .int .i64 f8_2]) (by repeat (first | exact List.mem_cons_self | refine List.mem_cons_of_mem _ ?_)) rfl
  have y1 := X.out.at_ (g := w.heap.size + 1) (i := 1) (v := .int .i64 f1) (cs := [.int .i64 f0, .int .i64 f1, .int .i64 f2, .int .i64 f3, .string f4, .slice B5 n5 k5, .int .i64 f6_0, .int .i64 f6_1, .int .i64 f7, .int .i64 f8_0, .int .i64 f8_1, .int .i64 f8_2]) (by repeat (first | exact List.mem_cons_self | refine List.mem_cons_of_mem _ ?_)) rfl
  have x2 := X.out.at_ (g := w.heap.size) (i := 2) (v := .int .i64 f2) (cs := [.int .i64 f0, .int .i64 f1, .int .i64 f2, .int .i64 f3, .string f4, .slice A5 n5 c5, .int .i64 f6_0, .int .i64 f6_1, .int .i64 f7, .int .i64 f8_0, .int .i64 f8_1, .int .i64 f8_2]) (by repeat (first | exact List.mem_cons_self | refine List.mem_cons_of_mem _ ?_)) rfl
  have y2 := X.out.at_ (g := w.heap.size + 1) (i := 2) (v := .int .i64 f2) (cs := [.int .i64 f0, .int .i64 f1, .int .i64 f2, .int .i64 f3, .string f4, .slice B5 n5 k5, .int .i64 f6_0, .int .i64 f6_1, .int .i64 f7, .int .i64 f8_0, .int .i64 f8_1, .int .i64 f8_2]) (by repeat (first | exact List.mem_cons_self | refine List.mem_cons_of_mem _ ?_)) rfl
  have x3 := X.out.at_ (g := w.heap.size) (i := 3) (v := .int .i64 f3) (cs := [.int .i64 f0, .int .i64 f1, .int .i64 f2, .int .i64 f3, .string f4, .slice A5 n5 c5, .int .i64 f6_0, .int .i64 f6_1, .int .i64 f7, .int .i64 f8_0, .int .i64 f8_1, .int .i64 f8_2]) (by repeat (first | exact List.mem_cons_self | refine List.mem_cons_of_mem _ ?_)) rfl
  have y3 := X.out.at_ (g := w.heap.size + 1) (i := 3) (v := .int .i64 f3) (cs := [.int .i64 f0, .int .i64 f1, .int .i64 f2, .int .i64 f3, .string f4, .slice B5 n5 k5, .int .i64 f6_0, .int .i64 f6_1, .int .i64 f7, .int .i64 f8_0, .int .i64 f8_1, .int .i64 f8_2]) (by repeat (first | exact List.mem_cons_self | refine List.mem_cons_of_mem _ ?_)) rfl
  have x4 := X.out.at_ (g := w.heap.size) (i := 4) (v := .string f4) (cs := [.int .i64 f0, .int .i64 f1, .int .i64 f2, .int .i64 f3, .string f4, .slice A5 n5 c5, .int .i64 f6_0, .int .i64 f6_1, .int .i64 f7, .int .i64 f8_0, .int .i64 f8_1, .int .i64 f8_2]) (by repeat (first | exact List.mem_cons_self | refine List.mem_cons_of_mem _ ?_)) rfl
  have y4 := X.out.at_ (g := w.heap.size + 1) (i := 4) (v := .string f4) (cs := [.int .i64 f0, .int .i64 f1, .int .i64 f2, .int .i64 f3, .string f4, .slice B5 n5 k5, .int .i64 f6_0, .int .i64 f6_1, .int .i64 f7, .int .i64 f8_0, .int .i64 f8_1, .int .i64 f8_2]) (by repeat (first | exact List.mem_cons_self | refine List.mem_cons_of_mem _ ?_)) rfl
  have x5 := X.out.at_ (g := w.heap.size) (i := 5) (v := .slice A5 n5 c5) (cs := [.int .i64 f0, .int .i64 f1, .int .i64 f2, .int .i64 f3, .string f4, .slice A5 n5 c5, .int .i64 f6_0, .int .i64 f6_1, .int .i64 f7, .int .i64 f8_0, .int .i64 f8_1, .int .i64 f8_2]) (by repeat (first | exact List.mem_cons_self | refine List.mem_cons_of_mem _ ?_)) rfl
  have y5 := X.out.at_ (g := w.heap.size + 1) (i := 5) (v := .slice B5 n5 k5) (cs := [.int .i64 f0, .int .i64 f1, .int .i64 f2, .int .i64 f3, .string f4, .slice B5 n5 k5, .int .i64 f6_0, .int .i64 f6_1, .int .i64 f7, .int .i64 f8_0, .int .i64 f8_1, .int .i64 f8_2]) (by repeat (first | exact List.mem_cons_self | refine List.mem_cons_of_mem _ ?_)) rfl
  have x6 := X.out.at_ (g := w.heap.size) (i := 6) (v := .int .i64 f6_0) (cs := [.int .i64 f0, .int .i64 f1, .int .i64 f2, .int .i64 f3, .string f4, .slice A5 n5 c5, .int .i64 f6_0, .int .i64 f6_1, .int .i64 f7, .int .i64 f8_0, .int .i64 f8_1, .int .i64 f8_2]) (by repeat (first | exact List.mem_cons_self | refine List.mem_cons_of_mem _ ?_)) rfl
  have y6 := X.out.at_ (g := w.heap.size + 1) (i := 6) (v := .int .i64 f6_0) (cs := [.int .i64 f0, .int .i64 f1, .int .i64 f2, .int .i64 f3, .string f4, .slice B5 n5 k5, .int .i64 f6_0, .int .i64 f6_1, .int .i64 f7, .int .i64 f8_0, .int .i64 f8_1, .int .i64 f8_2]) (by repeat (first | exact List.mem_cons_self | refine List.mem_cons_of_mem _ ?_)) rfl
  have x7 := X.out.at_ (g := w.heap.size) (i := 7) (v := .int .i64 f6_1) (cs := [.int .i64 f0, .int .i64 f1, .int .i64 f2, .int .i64 f3, .string f4, .slice A5 n5 c5, .int .i64 f6_0, .int .i64 f6_1, .int .i64 f7, .int .i64 f8_0, .int .i64 f8_1, .int .i64 f8_2]) (by repeat (first | exact List.mem_cons_self | refine List.mem_cons_of_mem _ ?_)) rfl
  have y7 := X.out.at_ (g := w.heap.size + 1) (i := 7) (v := .int .i64 f6_1) (cs := [.int .i64 f0, .int .i64 f1, .int .i64 f2, .int .i64 f3, .string f4, .slice B5 n5 k5, .int .i64 f6_0, .int .i64 f6_1, .int .i64 f7, .int .i64 f8_0, .int .i64 f8_1, .int .i64 f8_2]) (by repeat (first | exact List.mem_cons_self | refine List.mem_cons_of_mem _ ?_)) rfl
  have x8 := X.out.at_ (g := w.heap.size) (i := 8) (v := .int .i64 f7) (cs := [.int .i64 f0, .int .i64 f1, .int .i64 f2, .int .i64 f3, .string f4, .slice A5 n5 c5, .int .i64 f6_0, .int .i64 f6_1, .int .i64 f7, .int .i64 f8_0, .int .i64 f8_1, .int .i64 f8_2]) (by repeat (first | exact List.mem_cons_self | refine List.mem_cons_of_mem _ ?_)) rfl
  have y8 := X.out.at_ (g := w.heap.size + 1) (i := 8) (v := .int .i64 f7) (cs := [.int .i64 f0, .int .i64 f1, .int .i64 f2, .int .i64 f3, .string f4, .slice B5 n5 k5, .int .i64 f6_0, .int .i64 f6_1, .int .i64 f7, .int .i64 f8_0, .int .i64 f8_1, .int .i64 f8_2]) (by repeat (first | exact List.mem_cons_self | refine List.mem_cons_of_mem _ ?_)) rfl
  have x9 := X.out.at_ (g := w.heap.size) (i := 9) (v := .int .i64 f8_0) (cs := [.int .i64 f0, .int .i64 f1, .int .i64 f2, .int .i64 f3, .string f4, .slice A5 n5 c5, .int .i64 f6_0, .int .i64 f6_1, .int .i64 f7, .int .i64 f8_0, .int .i64 f8_1, .int .i64 f8_2]) (by repeat (first | exact List.mem_cons_self | refine List.mem_cons_of_mem _ ?_)) rfl
  have y9 := X.out.at_ (g := w.heap.size + 1) (i := 9) (v := .int .i64 f8_0) (cs := [.int .i64 f0, .int .i64 f1, .int .i64 f2, .int .i64 f3, .string f4, .slice B5 n5 k5, .int .i64 f6_0, .int .i64 f6_1, .int .i64 f7, .int .i64 f8_0, .int .i64 f8_1, .int .i64 f8_2]) (by repeat (first | exact List.mem_cons_self | refine List.mem_cons_of_mem _ ?_)) rfl
  have x10 := X.out.at_ (g := w.heap.size) (i := 10) (v := .int .i64 f8_1) (cs := [.int .i64 f0, .int .i64 f1, .int .i64 f2, .int .i64 f3, .string f4, .slice A5 n5 c5, .int .i64 f6_0, .int .i64 f6_1, .int .i64 f7, .int .i64 f8_0, .int .i64 f8_1, .int .i64 f8_2]) (by repeat (first | exact List.mem_cons_self | refine List.mem_cons_of_mem _ ?_)) rfl
  have y10 := X.out.at_ (g := w.heap.size + 1) (i := 10) (v := .int .i64 f8_1) (cs := [.int .i64 f0, .int .i64 f1, .int .i64 f2, .int .i64 f3, .string f4, .slice B5 n5 k5, .int .i64 f6_0, .int .i64 f6_1, .int .i64 f7, .int .i64 f8_0, .int .i64 f8_1, .int .i64 f8_2]) (by repeat (first | exact List.mem_cons_self | refine List.mem_cons_of_mem _ ?_)) rfl
  have x11 := X.out.at_ (g := w.heap.size) (i := 11) (v := .int .i64 f8_2) (cs := [.int .i64 f0, .int .i64 f1, .int .i64 f2, .int .i64 f3, .string f4, .slice A5 n5 c5, .int .i64 f6_0, .int .i64 f6_1, .int .i64 f7, .int .i64 f8_0, .int .i64 f8_1, .int .i64 f8_2]) (by repeat (first | exact List.mem_cons_self | refine List.mem_cons_of_mem _ ?_)) rfl
  have y11 := X.out.at_ (g := w.heap.size + 1) (i := 11) (v := .int .i64 f8_2) (cs := [.int .i64 f0, .int .i64 f1, .int .i64 f2, .int .i64 f3, .string f4, .slice B5 n5 k5, .int .i64 f6_0, .int .i64 f6_1, .int .i64 f7, .int .i64 f8_0, .int .i64 f8_1, .int .i64 f8_2]) (by repeat (first | exact List.mem_cons_self | refine List.mem_cons_of_mem _ ?_)) rfl
  go_wp2_with fail
  refine (eqTag f8_0 f8_1 f8_2 _).mono ?_
  rintro e w3 ⟨rfl, hb⟩
  clear x0 x1 x2 x3 x4 x5 x6 x7 x8 x9 x10 x11 y0 y1 y2 y3 y4 y5 y6 y7 y8 y9 y10 y11
  replace X := Lib.hid (X.out.below hb)
  clear hb
  go_wp2_with fail
  go_ret
  exact GivesBool.ret X.out.1
end Go.Proofs.Ytmeacgpebpfpbaa
end
section
namespace Go.Proofs.Ytmeacgpebpfpbaa
open Go.RowKit
set_option linter.unusedVariables false
set_option linter.unusedSimpArgs false
set_option maxRecDepth 100000 in
set_option maxHeartbeats 4000000 in
theorem eqEntityS (L : List Dat) (A A' : Option Addr) (n n' c c' : Nat) (w : World) (h : Lies w (.l L) [.slice A n c]) (h' : Lies w (.l L) [.slice A' n' c']) (ht : ∀ x ∈ L, Has tyEntity x) (hn : n ≤ 9223372036854775807) : Calls Try.prog 73 #[.slice A n c, .slice A' n' c'] w (GivesBool true w) := by
  obtain rfl : n = n' := by rw [← h.count, ← h'.count]
  have H := Lib.hid h
  have H' := Lib.hid h'
  have HT := Lib.hid ht
  clear h h' ht
  go_enter Try.func73, Try.ntmps73
  go_wp2
  go_loopw [5] (fun iv wr => ∃ i : Nat, i ≤ n ∧ iv = .int .i64 i ∧ Below w.heap.size w wr) (fun iv _ => n - (intOf iv).toNat)
  case atStart => exact ⟨0, Nat.zero_le _, rfl, Below.refl _ _⟩
  case round =>
    obtain ⟨i, hin, rfl, hb⟩ := hrel
    by_cases hlt : i < n
    · obtain ⟨b, off, d, xs, rfl, hbw, hzi, hlie, hlen, hcellr⟩ := (H.out.below hb).elem (fun x hx => (HT.out x hx).width) hlt
      obtain ⟨b', off', d', xs', rfl, hbw', hzi', hlie', hlen', hcells⟩ := (H'.out.below hb).elem (fun x hx => (HT.out x hx).width) hlt
      obtain rfl : d = d' := by rw [hzi] at hzi'; exact Option.some.inj hzi'
      obtain ⟨g0, g1, M2, B2, m2, k2, g3, g4_0, g4_1, M5, B5, m5, k5, M6, B6, m6, k6, g7, g8, g9, g10, hdd, rfl, hr2, _hu2, _hv2, hr5, _hu5, _hv5, hr6, _hu6, _hv6⟩ := invEntity (HT.out d (List.mem_of_getElem? hzi)) hlie'
      obtain ⟨f0, f1, L2, A2, n2, c2, f3, f4_0, f4_1, L5, A5, n5, c5, L6, A6, n6, c6, f7, f8, f9, f10, rfl, rfl, hl2, ht2, hm2, hl5, ht5, hm5, hl6, ht6, hm6⟩ := invEntity (HT.out d (List.mem_of_getElem? hzi)) hlie
      simp only [Dat.r.injEq, List.cons.injEq, and_true] at hdd
      obtain ⟨e0, e1, e2, e3, ⟨e4_0, e4_1⟩, e5, e6, e7, e8, e9, e10⟩ := hdd
      obtain rfl : f0 = g0 := by injection e0
      obtain rfl : f1 = g1 := by injection e1
      obtain rfl : L2 = M2 := by injection e2
      obtain rfl : n2 = m2 := by rw [← hl2.count, ← hr2.count]
      obtain rfl : f3 = g3 := by injection e3
      obtain rfl : f4_0 = g4_0 := by injection e4_0
      obtain rfl : f4_1 = g4_1 := by injection e4_1
      obtain rfl : L5 = M5 := by injection e5
      obtain rfl : n5 = m5 := by rw [← hl5.count, ← hr5.count]
      obtain rfl : L6 = M6 := by injection e6
      obtain rfl : n6 = m6 := by rw [← hl6.count, ← hr6.count]
      obtain rfl : f7 = g7 := by injection e7
      obtain rfl : f8 = g8 := by injection e8
      obtain rfl : f9 = g9 := by injection e9
      obtain rfl : f10 = g10 := by injection e10
      have r0 : wr.cell? ⟨b, off + i * 12, none⟩ = some (.int .i64 f0) := hcellr 0 _ rfl
      have r1 : wr.cell? ⟨b, off + i * 12 + 1, none⟩ = some (.int .i64 f1) := hcellr 1 _ rfl
      have r2 : wr.cell? ⟨b, off + i * 12 + 2, none⟩ = some (.slice A2 n2 c2) := hcellr 2 _ rfl
      have r3 : wr.cell? ⟨b, off + i * 12 + 3, none⟩ = some (.int .i64 f3) := hcellr 3 _ rfl
      have r4 : wr.cell? ⟨b, off + i * 12 + 4, none⟩ = some (.int .i64 f4_0) := hcellr 4 _ rfl
      have r5 : wr.cell? ⟨b, off + i * 12 + 5, none⟩ = some (.int .i64 f4_1) := hcellr 5 _ rfl
      have r6 : wr.cell? ⟨b, off + i * 12 + 6, none⟩ = some (.slice A5 n5 c5) := hcellr 6 _ rfl
      have r7 : wr.cell? ⟨b, off + i * 12 + 7, none⟩ = some (.slice A6 n6 c6) := hcellr 7 _ rfl
      have r8 : wr.cell? ⟨b, off + i * 12 + 8, none⟩ = some (.int .i64 f7) := hcellr 8 _ rfl
      have r9 : wr.cell? ⟨b, off + i * 12 + 9, none⟩ = some (.int .i64 f8) := hcellr 9 _ rfl
      have r10 : wr.cell? ⟨b, off + i * 12 + 10, none⟩ = some (.int .i64 f9) := hcellr 10 _ rfl
      have r11 : wr.cell? ⟨b, off + i * 12 + 11, none⟩ = some (.int .i64 f10) := hcellr 11 _ rfl
      have s0 : wr.cell? ⟨b', off' + i * 12, none⟩ = some (.int .i64 f0) := hcells 0 _ rfl
      have s1 : wr.cell? ⟨b', off' + i * 12 + 1, none⟩ = some (.int .i64 f1) := hcells 1 _ rfl
      have s2 : wr.cell? ⟨b', off' + i * 12 + 2, none⟩ = some (.slice B2 n2 k2) := hcells 2 _ rfl
      have s3 : wr.cell? ⟨b', off' + i * 12 + 3, none⟩ = some (.int .i64 f3) := hcells 3 _ rfl
      have s4 : wr.cell? ⟨b', off' + i * 12 + 4, none⟩ = some (.int .i64 f4_0) := hcells 4 _ rfl
      have s5 : wr.cell? ⟨b', off' + i * 12 + 5, none⟩ = some (.int .i64 f4_1) := hcells 5 _ rfl
      have s6 : wr.cell? ⟨b', off' + i * 12 + 6, none⟩ = some (.slice B5 n5 k5) := hcells 6 _ rfl
      have s7 : wr.cell? ⟨b', off' + i * 12 + 7, none⟩ = some (.slice B6 n6 k6) := hcells 7 _ rfl
      have s8 : wr.cell? ⟨b', off' + i * 12 + 8, none⟩ = some (.int .i64 f7) := hcells 8 _ rfl
      have s9 : wr.cell? ⟨b', off' + i * 12 + 9, none⟩ = some (.int .i64 f8) := hcells 9 _ rfl
      have s10 : wr.cell? ⟨b', off' + i * 12 + 10, none⟩ = some (.int .i64 f9) := hcells 10 _ rfl
      have s11 : wr.cell? ⟨b', off' + i * 12 + 11, none⟩ = some (.int .i64 f10) := hcells 11 _ rfl
      have HBR := Lib.hid hb
      have HL2 := Lib.hid (hl2.drew)
      have HR2 := Lib.hid (hr2.drew)
      have HX2 := Lib.hid ht2
      have HL5 := Lib.hid (hl5.drew)
      have HR5 := Lib.hid (hr5.drew)
      have HX5 := Lib.hid ht5
      have HL6 := Lib.hid (hl6.drew)
      have HR6 := Lib.hid (hr6.drew)
      have HX6 := Lib.hid ht6
      clear hzi hzi' hb hcellr hcells hlie hlie' hl2 hr2 ht2 _hu2 hl5 hr5 ht5 _hu5 hl6 hr6 ht6 _hu6
      go_wp2_with fail
      go_region_with (
        go_at_call 38
        refine (eqEntity f0 f1 L2 A2 n2 c2 f3 f4_0 f4_1 L5 A5 n5 c5 L6 A6 n6 c6 f7 f8 f9 f10 B2 k2 B5 k5 B6 k6 _ HL2.out HR2.out HX2.out hm2 HL5.out HR5.out HX5.out hm5 HL6.out HR6.out HX6.out hm6).mono ?_
        rintro e w2 ⟨rfl, hb2⟩
        have HB2 : Hid (Below w.heap.size w w2) := Lib.hid (HBR.out.drew.trans (hb2.mono HBR.out.size))
        clear hb2)
      all_goals (
        go_wp2_with fail
        go_roundw
        case rel => exact ⟨i + 1, by omega, by go_num, HB2.out⟩
        case measure => simp [intOf]; omega)
    · have HB := Lib.hid hb
      clear hb
      go_wp2
      go_ret
      exact GivesBool.ret HB.out
set_option maxRecDepth 100000 in
set_option maxHeartbeats 4000000 in
theorem eqLinkS (L : List Dat) (A A' : Option Addr) (n n' c c' : Nat) (w : World) (h : Lies w (.l L) [.slice A n c]) (h' : Lies w (.l L) [.slice A' n' c']) (ht : ∀ x ∈ L, Has tyLink x) (hn : n ≤ 9223372036854775807) : Calls Try.prog 75 #[.slice A n c, .slice A' n' c'] w (GivesBool true w) := by
  obtain rfl : n = n' := by rw [← h.count, ← h'.count]
  have H := Lib.hid h
  have H' := Lib.hid h'
  have HT := Lib.hid ht
  clear h h' ht
  go_enter Try.func75, Try.ntmps75
  go_wp2
  go_loopw [5] (fun iv wr => ∃ i : Nat, i ≤ n ∧ iv = .int .i64 i ∧ Below w.heap.size w wr) (fun iv _ => n - (intOf iv).toNat)
  case atStart => exact ⟨0, Nat.zero_le _, rfl, Below.refl _ _⟩
  case round =>
    obtain ⟨i, hin, rfl, hb⟩ := hrel
    by_cases hlt : i < n
    · obtain ⟨b, off, d, xs, rfl, hbw, hzi, hlie, hlen, hcellr⟩ := (H.out.below hb).elem (fun x hx => (HT.out x hx).width) hlt
      obtain ⟨b', off', d', xs', rfl, hbw', hzi', hlie', hlen', hcells⟩ := (H'.out.below hb).elem (fun x hx => (HT.out x hx).width) hlt
      obtain rfl : d = d' := by rw [hzi] at hzi'; exact Option.some.inj hzi'
      obtain ⟨g0, g1, M2, B2, m2, k2, g3, M4, B4, m4, k4, g5, M6, B6, m6, k6, hdd, rfl, hr2, _hu2, _hv2, hr4, _hu4, _hv4, hr6, _hu6, _hv6⟩ := invLink (HT.out d (List.mem_of_getElem? hzi)) hlie'
      obtain ⟨f0, f1, L2, A2, n2, c2, f3, L4, A4, n4, c4, f5, L6, A6, n6, c6, rfl, rfl, hl2, ht2, hm2, hl4, ht4, hm4, hl6, ht6, hm6⟩ := invLink (HT.out d (List.mem_of_getElem? hzi)) hlie
      simp only [Dat.r.injEq, List.cons.injEq, and_true] at hdd
      obtain ⟨e0, e1, e2, e3, e4, e5, e6⟩ := hdd
      obtain rfl : f0 = g0 := by injection e0
      obtain rfl : f1 = g1 := by injection e1
      obtain rfl : L2 = M2 := by injection e2
      obtain rfl : n2 = m2 := by rw [← hl2.count, ← hr2.count]
      obtain rfl : f3 = g3 := by injection e3
      obtain rfl : L4 = M4 := by injection e4
      obtain rfl : n4 = m4 := by rw [← hl4.count, ← hr4.count]
      obtain rfl : f5 = g5 := by injection e5
      obtain rfl : L6 = M6 := by injection e6
      obtain rfl : n6 = m6 := by rw [← hl6.count, ← hr6.count]
      have r0 : wr.cell? ⟨b, off + i * 7, none⟩ = some (.int .i64 f0) := hcellr 0 _ rfl
      have r1 : wr.cell? ⟨b, off + i * 7 + 1, none⟩ = some (.bool f1) := hcellr 1 _ rfl
      have r2 : wr.cell? ⟨b, off + i * 7 + 2, none⟩ = some (.slice A2 n2 c2) := hcellr 2 _ rfl
      have r3 : wr.cell? ⟨b, off + i * 7 + 3, none⟩ = some (.int .i64 f3) := hcellr 3 _ rfl
      have r4 : wr.cell? ⟨b, off + i * 7 + 4, none⟩ = some (.slice A4 n4 c4) := hcellr 4 _ rfl
      have r5 : wr.cell? ⟨b, off + i * 7 + 5, none⟩ = some (.int .i64 f5) := hcellr 5 _ rfl
      have r6 : wr.cell? ⟨b, off + i * 7 + 6, none⟩ = some (.slice A6 n6 c6) := hcellr 6 _ rfl
      have s0 : wr.cell? ⟨b', off' + i * 7, none⟩ = some (.int .i64 f0) := hcells 0 _ rfl
      have s1 : wr.cell? ⟨b', off' + i * 7 + 1, none⟩ = some (.bool f1) := hcells 1 _ rfl
      have s2 : wr.cell? ⟨b', off' + i * 7 + 2, none⟩ = some (.slice B2 n2 k2) := hcells 2 _ rfl
      have s3 : wr.cell? ⟨b', off' + i * 7 + 3, none⟩ = some (.int .i64 f3) := hcells 3 _ rfl
      have s4 : wr.cell? ⟨b', off' + i * 7 + 4, none⟩ = some (.slice B4 n4 k4) := hcells 4 _ rfl
      have s5 : wr.cell? ⟨b', off' + i * 7 + 5, none⟩ = some (.int .i64 f5) := hcells 5 _ rfl
      have s6 : wr.cell? ⟨b', off' + i * 7 + 6, none⟩ = some (.slice B6 n6 k6) := hcells 6 _ rfl
      have HBR := Lib.hid hb
      have HL2 := Lib.hid (hl2.drew)
      have HR2 := Lib.hid (hr2.drew)
      have HX2 := Lib.hid ht2
      have HL4 := Lib.hid (hl4.drew)
      have HR4 := Lib.hid (hr4.drew)
      have HX4 := Lib.hid ht4
      have HL6 := Lib.hid (hl6.drew)
      have HR6 := Lib.hid (hr6.drew)
      have HX6 := Lib.hid ht6
      clear hzi hzi' hb hcellr hcells hlie hlie' hl2 hr2 ht2 _hu2 hl4 hr4 ht4 _hu4 hl6 hr6 ht6 _hu6
      go_wp2_with fail
      go_region_with (
        go_at_call 136
        refine (eqLink f0 f1 L2 A2 n2 c2 f3 L4 A4 n4 c4 f5 L6 A6 n6 c6 B2 k2 B4 k4 B6 k6 _ HL2.out HR2.out HX2.out hm2 HL4.out HR4.out HX4.out hm4 HL6.out HR6.out HX6.out hm6).mono ?_
        rintro e w2 ⟨rfl, hb2⟩
        have HB2 : Hid (Below w.heap.size w w2) := Lib.hid (HBR.out.drew.trans (hb2.mono HBR.out.size))
        clear hb2)
      all_goals (
        go_wp2_with fail
        go_roundw
        case rel => exact ⟨i + 1, by omega, by go_num, HB2.out⟩
        case measure => simp [intOf]; omega)
    · have HB := Lib.hid hb
      clear hb
      go_wp2
      go_ret
      exact GivesBool.ret HB.out
set_option maxHeartbeats 4000000 in
theorem eqOutgoing (f0 : Int) (f1_0 : Int) (f1_1 : Int) (f1_2 : Int) (f1_3 : Int) (f1_4 : ByteArray) (L1_5 : List Dat) (A1_5 : Option Addr) (n1_5 c1_5 : Nat) (f1_6_0 : Int) (f1_6_1 : Int) (f1_7 : Int) (f1_8_0 : Int) (f1_8_1 : Int) (f1_8_2 : Int) (B1_5 : Option Addr) (k1_5 : Nat) (w : World) (hl1_5 : Lies w (.l L1_5) [.slice A1_5 n1_5 c1_5]) (hr1_5 : Lies w (.l L1_5) [.slice B1_5 n1_5 k1_5]) (ht1_5 : ∀ x ∈ L1_5, Has tyWire x) (hm1_5 : n1_5 ≤ 9223372036854775807) : Calls Try.prog 137 #[.agg #[.int .i64 f0, .int .i64 f1_0, .int .i64 f1_1, .int .i64 f1_2, .int .i64 f1_3, .string f1_4, .slice A1_5 n1_5 c1_5, .int .i64 f1_6_0, .int .i64 f1_6_1, .int .i64 f1_7, .int .i64 f1_8_0, .int .i64 f1_8_1, .int .i64 f1_8_2], .agg #[.int .i64 f0, .int .i64 f1_0, .int .i64 f1_1, .int .i64 f1_2, .int .i64 f1_3, .string f1_4, .slice B1_5 n1_5 k1_5, .int .i64 f1_6_0, .int .i64 f1_6_1, .int .i64 f1_7, .int .i64 f1_8_0, .int .i64 f1_8_1, .int .i64 f1_8_2]] w (GivesBool true w) := by
  have HL1_5 := Lib.hid hl1_5
  have HR1_5 := Lib.hid hr1_5
  have HT1_5 := Lib.hid ht1_5
  clear hl1_5 hr1_5 ht1_5
  have X := ((Held.start w).push #[.int .i64 f0, .int .i64 f1_0, .int .i64 f1_1, .int .i64 f1_2, .int .i64 f1_3, .string f1_4, .slice A1_5 n1_5 c1_5, .int .i64 f1_6_0, .int .i64 f1_6_1, .int .i64 f1_7, .int .i64 f1_8_0, .int .i64 f1_8_1, .int .i64 f1_8_2] 114).push #[.int .i64 f0, .int .i64 f1_0, .int .i64 f1_1, .int .i64 f1_2, .int .i64 f1_3, .string f1_4, .slice B1_5 n1_5 k1_5, .int .i64 f1_6_0, .int .i64 f1_6_1, .int .i64 f1_7, .int .i64 f1_8_0, .int .i64 f1_8_1, .int .i64 f1_8_2] 114
  simp only [World.size_alloc] at X
  replace X := Lib.hid X
  go_enter Try.func137, Try.ntmps137
  go_wp2_with fail
  refine (eqMessage f1_0 f1_1 f1_2 f1_3 f1_4 L1_5 A1_5 n1_5 c1_5 f1_6_0 f1_6_1 f1_7 f1_8_0 f1_8_1 f1_8_2 B1_5 k1_5 _ (HL1_5.out.below X.out.1) (HR1_5.out.below X.out.1) HT1_5.out hm1_5).mono ?_
  rintro e w1 ⟨rfl, hb⟩
  replace X := Lib.hid (X.out.below hb)
  clear hb
  go_wp2_with fail
  go_ret
  exact GivesBool.ret X.out.1
set_option maxRecDepth 100000 in
set_option maxHeartbeats 4000000 in
theorem eqOutgoingS (L : List Dat) (A A' : Option Addr) (n n' c c' : Nat) (w : World) (h : Lies w (.l L) [.slice A n c]) (h' : Lies w (.l L) [.slice A' n' c']) (ht : ∀ x ∈ L, Has tyOutgoing x) (hn : n ≤ 9223372036854775807) : Calls Try.prog 76 #[.slice A n c, .slice A' n' c'] w (GivesBool true w) := by
  obtain rfl : n = n' := by rw [← h.count, ← h'.count]
  have H := Lib.hid h
  have H' := Lib.hid h'
  have HT := Lib.hid ht
  clear h h' ht
  go_enter Try.func76, Try.ntmps76
  go_wp2
  go_loopw [5] (fun iv wr => ∃ i : Nat, i ≤ n ∧ iv = .int .i64 i ∧ Below w.heap.size w wr) (fun iv _ => n - (intOf iv).toNat)
  case atStart => exact ⟨0, Nat.zero_le _, rfl, Below.refl _ _⟩
  case round =>
    obtain ⟨i, hin, rfl, hb⟩ := hrel
    by_cases hlt : i < n
    · obtain ⟨b, off, d, xs, rfl, hbw, hzi, hlie, hlen, hcellr⟩ := (H.out.below hb).elem (fun x hx => (HT.out x hx).width) hlt
      obtain ⟨b', off', d', xs', rfl, hbw', hzi', hlie', hlen', hcells⟩ := (H'.out.below hb).elem (fun x hx => (HT.out x hx).width) hlt
      obtain rfl : d = d' := by rw [hzi] at hzi'; exact Option.some.inj hzi'
      obtain ⟨g0, g1_0, g1_1, g1_2, g1_3, g1_4, M1_5, B1_5, m1_5, k1_5, g1_6_0, g1_6_1, g1_7, g1_8_0, g1_8_1, g1_8_2, hdd, rfl, _hf1_4, hr1_5, _hu1_5, _hv1_5⟩ := invOutgoing (HT.out d (List.mem_of_getElem? hzi)) hlie'
      obtain ⟨f0, f1_0, f1_1, f1_2, f1_3, f1_4, L1_5, A1_5, n1_5, c1_5, f1_6_0, f1_6_1, f1_7, f1_8_0, f1_8_1, f1_8_2, rfl, rfl, hf1_4, hl1_5, ht1_5, hm1_5⟩ := invOutgoing (HT.out d (List.mem_of_getElem? hzi)) hlie
      simp only [Dat.r.injEq, List.cons.injEq, and_true] at hdd
      obtain ⟨e0, ⟨e1_0, e1_1, e1_2, e1_3, e1_4, e1_5, ⟨e1_6_0, e1_6_1⟩, e1_7, ⟨e1_8_0, e1_8_1, e1_8_2⟩⟩⟩ := hdd
      obtain rfl : f0 = g0 := by injection e0
      obtain rfl : f1_0 = g1_0 := by injection e1_0
      obtain rfl : f1_1 = g1_1 := by injection e1_1
      obtain rfl : f1_2 = g1_2 := by injection e1_2
      obtain rfl : f1_3 = g1_3 := by injection e1_3
      obtain rfl : f1_4 = g1_4 := by injection e1_4
      obtain rfl : L1_5 = M1_5 := by injection e1_5
      obtain rfl : n1_5 = m1_5 := by rw [← hl1_5.count, ← hr1_5.count]
      obtain rfl : f1_6_0 = g1_6_0 := by injection e1_6_0
      obtain rfl : f1_6_1 = g1_6_1 := by injection e1_6_1
      obtain rfl : f1_7 = g1_7 := by injection e1_7
      obtain rfl : f1_8_0 = g1_8_0 := by injection e1_8_0
      obtain rfl : f1_8_1 = g1_8_1 := by injection e1_8_1
      obtain rfl : f1_8_2 = g1_8_2 := by injection e1_8_2
      have r0 : wr.cell? ⟨b, off + i * 13, none⟩ = some (.int .i64 f0) := hcellr 0 _ rfl
      have r1 : wr.cell? ⟨b, off + i * 13 + 1, none⟩ = some (.int .i64 f1_0) := hcellr 1 _ rfl
      have r2 : wr.cell? ⟨b, off + i * 13 + 2, none⟩ = some (.int .i64 f1_1) := hcellr 2 _ rfl
      have r3 : wr.cell? ⟨b, off + i * 13 + 3, none⟩ = some (.int .i64 f1_2) := hcellr 3 _ rfl
      have r4 : wr.cell? ⟨b, off + i * 13 + 4, none⟩ = some (.int .i64 f1_3) := hcellr 4 _ rfl
      have r5 : wr.cell? ⟨b, off + i * 13 + 5, none⟩ = some (.string f1_4) := hcellr 5 _ rfl
      have r6 : wr.cell? ⟨b, off + i * 13 + 6, none⟩ = some (.slice A1_5 n1_5 c1_5) := hcellr 6 _ rfl
      have r7 : wr.cell? ⟨b, off + i * 13 + 7, none⟩ = some (.int .i64 f1_6_0) := hcellr 7 _ rfl
      have r8 : wr.cell? ⟨b, off + i * 13 + 8, none⟩ = some (.int .i64 f1_6_1) := hcellr 8 _ rfl
      have r9 : wr.cell? ⟨b, off + i * 13 + 9, none⟩ = some (.int .i64 f1_7) := hcellr 9 _ rfl
      have r10 : wr.cell? ⟨b, off + i * 13 + 10, none⟩ = some (.int .i64 f1_8_0) := hcellr 10 _ rfl
      have r11 : wr.cell? ⟨b, off + i * 13 + 11, none⟩ = some (.int .i64 f1_8_1) := hcellr 11 _ rfl
      have r12 : wr.cell? ⟨b, off + i * 13 + 12, none⟩ = some (.int .i64 f1_8_2) := hcellr 12 _ rfl
      have s0 : wr.cell? ⟨b', off' + i * 13, none⟩ = some (.int .i64 f0) := hcells 0 _ rfl
      have s1 : wr.cell? ⟨b', off' + i * 13 + 1, none⟩ = some (.int .i64 f1_0) := hcells 1 _ rfl
      have s2 : wr.cell? ⟨b', off' + i * 13 + 2, none⟩ = some (.int .i64 f1_1) := hcells 2 _ rfl
      have s3 : wr.cell? ⟨b', off' + i * 13 + 3, none⟩ = some (.int .i64 f1_2) := hcells 3 _ rfl
      have s4 : wr.cell? ⟨b', off' + i * 13 + 4, none⟩ = some (.int .i64 f1_3) := hcells 4 _ rfl
      have s5 : wr.cell? ⟨b', off' + i * 13 + 5, none⟩ = some (.string f1_4) := hcells 5 _ rfl
      have s6 : wr.cell? ⟨b', off' + i * 13 + 6, none⟩ = some (.slice B1_5 n1_5 k1_5) := hcells 6 _ rfl
      have s7 : wr.cell? ⟨b', off' + i * 13 + 7, none⟩ = some (.int .i64 f1_6_0) := hcells 7 _ rfl
      have s8 : wr.cell? ⟨b', off' + i * 13 + 8, none⟩ = some (.int .i64 f1_6_1) := hcells 8 _ rfl
      have s9 : wr.cell? ⟨b', off' + i * 13 + 9, none⟩ = some (.int .i64 f1_7) := hcells 9 _ rfl
      have s10 : wr.cell? ⟨b', off' + i * 13 + 10, none⟩ = some (.int .i64 f1_8_0) := hcells 10 _ rfl
      have s11 : wr.cell? ⟨b', off' + i * 13 + 11, none⟩ = some (.int .i64 f1_8_1) := hcells 11 _ rfl
      have s12 : wr.cell? ⟨b', off' + i * 13 + 12, none⟩ = some (.int .i64 f1_8_2) := hcells 12 _ rfl
      have HBR := Lib.hid hb
      have HL1_5 := Lib.hid (hl1_5.drew)
      have HR1_5 := Lib.hid (hr1_5.drew)
      have HX1_5 := Lib.hid ht1_5
      clear hzi hzi' hb hcellr hcells hlie hlie' hl1_5 hr1_5 ht1_5 _hu1_5
      go_wp2_with fail
      go_region_with (
        go_at_call 137
        refine (eqOutgoing f0 f1_0 f1_1 f1_2 f1_3 f1_4 L1_5 A1_5 n1_5 c1_5 f1_6_0 f1_6_1 f1_7 f1_8_0 f1_8_1 f1_8_2 B1_5 k1_5 _ HL1_5.out HR1_5.out HX1_5.out hm1_5).mono ?_
        rintro e w2 ⟨rfl, hb2⟩
        have HB2 : Hid (Below w.heap.size w w2) := Lib.hid (HBR.out.drew.trans (hb2.mono HBR.out.size))
        clear hb2)
      all_goals (
        go_wp2_with fail
        go_roundw
        case rel => exact ⟨i + 1, by omega, by go_num, HB2.out⟩
        case measure => simp [intOf]; omega)
    · have HB := Lib.hid hb
      clear hb
      go_wp2
      go_ret
      exact GivesBool.ret HB.out
end Go.Proofs.Ytmeacgpebpfpbaa
end
section
namespace Go.Proofs.Ytmeacgpebpfpbaa
open Go.RowKit
set_option linter.unusedVariables false
set_option linter.unusedSimpArgs false
set_option maxHeartbeats 4000000 in
theorem eqVat (f0 : Int) (L1 : List Dat) (A1 : Option Addr) (n1 c1 : Nat) (L2 : List Dat) (A2 : Option Addr) (n2 c2 : Nat) (L3 : List Dat) (A3 : Option Addr) (n3 c3 : Nat) (L4 : List Dat) (A4 : Option Addr) (n4 c4 : Nat) (B1 : Option Addr) (k1 : Nat) (B2 : Option Addr) (k2 : Nat) (B3 : Option Addr) (k3 : Nat) (B4 : Option Addr) (k4 : Nat) (w : World) (hl1 : Lies w (.l L1) [.slice A1 n1 c1]) (hr1 : Lies w (.l L1) [.slice B1 n1 k1]) (ht1 : ∀ x ∈ L1, Has tyEntity x) (hm1 : n1 ≤ 9223372036854775807) (hl2 : Lies w (.l L2) [.slice A2 n2 c2]) (hr2 : Lies w (.l L2) [.slice B2 n2 k2]) (ht2 : ∀ x ∈ L2, Has tySent x) (hm2 : n2 ≤ 9223372036854775807) (hl3 : Lies w (.l L3) [.slice A3 n3 c3]) (hr3 : Lies w (.l L3) [.slice B3 n3 k3]) (ht3 : ∀ x ∈ L3, Has tyLink x) (hm3 : n3 ≤ 9223372036854775807) (hl4 : Lies w (.l L4) [.slice A4 n4 c4]) (hr4 : Lies w (.l L4) [.slice B4 n4 k4]) (ht4 : ∀ x ∈ L4, Has tyOutgoing x) (hm4 : n4 ≤ 9223372036854775807) : Calls Try.prog 23 #[.agg #[.int .i64 f0, .slice A1 n1 c1, .slice A2 n2 c2, .slice A3 n3 c3, .slice A4 n4 c4], .agg #[.int .i64 f0, .slice B1 n1 k1, .slice B2 n2 k2, .slice B3 n3 k3, .slice B4 n4 k4]] w (GivesBool true w) := by
  have HL1 := Lib.hid hl1
  have HR1 := Lib.hid hr1
  have HT1 := Lib.hid ht1
  clear hl1 hr1 ht1
  have HL2 := Lib.hid hl2
  have HR2 := Lib.hid hr2
  have HT2 := Lib.hid ht2
  clear hl2 hr2 ht2
  have HL3 := Lib.hid hl3
  have HR3 := Lib.hid hr3
  have HT3 := Lib.hid ht3
  clear hl3 hr3 ht3
  have HL4 := Lib.hid hl4
  have HR4 := Lib.hid hr4
  have HT4 := Lib.hid ht4
  clear hl4 hr4 ht4
  have X := ((Held.start w).push #[.int .i64 f0, .slice A1 n1 c1, .slice A2 n2 c2, .slice A3 n3 c3, .slice A4 n4 c4] 29).push #[.int .i64 f0, .slice B1 n1 k1, .slice B2 n2 k2, .slice B3 n3 k3, .slice B4 n4 k4] 29
  simp only [World.size_alloc] at X
  replace X := Lib.hid X
  go_enter Try.func23, Try.ntmps23
  go_wp2_with fail
  refine (eqEntityS L1 A1 B1 n1 n1 c1 k1 _ (HL1.out.below X.out.1) (HR1.out.below X.out.1) HT1.out hm1).mono ?_
  rintro e w1 ⟨rfl, hb⟩
  replace X := Lib.hid (X.out.below hb)
  clear hb
  have x0 := X.out.at_ (g := w.heap.size) (i := 0) (v := .int .i64 f0) (cs := [.int .i64 f0, .slice A1 n1 c1, .slice A2 n2 c2, .slice A3 n3 c3, .slice A4 n4 c4]) (by repeat (first | exact List.mem_cons_self | refine List.mem_cons_of_mem _ ?_)) rfl
  have y0 := X.out.at_ (g := w.heap.size + 1) (i := 0) (v := .int .i64 f0) (cs := [.int .i64 f0, .slice B1 n1 k1, .slice B2 n2 k2, .slice B3 n3 k3, .slice B4 n4 k4]) (by repeat (first | exact List.mem_cons_self | refine List.mem_cons_of_mem _ ?_)) rfl
  have x1 := X.out.at_ (g := w.heap.size) (i := 1) (v := .slice A1 n1 c1) (cs := [.int .i64 f0, .slice A1 n1 c1, .slice A2 n2 c2, .slice A3 n3 c3, .slice A4 n4 c4]) (by repeat (first | exact List.mem_cons_self | refine List.mem_cons_of_mem _ ?_)) rfl
  have y1 := X.out.at_ (g := w.heap.size + 1) (i := 1) (v := .slice B1 n1 k1) (cs := [.int .i64 f0, .slice B1 n1 k1, .slice B2 n2 k2, .slice B3 n3 k3, .slice B4 n4 k4]) (by repeat (first | exact List.mem_cons_self | refine List.mem_cons_of_mem _ ?_)) rfl
  have x2 := X.out.at_ (g := w.heap.size) (i := 2) (v := .slice A2 n2 c2) (cs := [.int .i64 f0, .slice A1 n1 c1, .slice A2 n2 c2, .slice A3 n3 c3, .slice A4 n4 c4]) (by repeat (first | exact List.mem_cons_self | refine List.mem_cons_of_mem _ ?_)) rfl
  have y2 := X.out.at_ (g := w.heap.size + 1) (i := 2) (v := .slice B2 n2 k2) (cs := [.int .i64 f0, .slice B1 n1 k1, .slice B2 n2 k2, .slice B3 n3 k3, .slice B4 n4 k4]) (by repeat (first | exact List.mem_cons_self | refine List.mem_cons_of_mem _ ?_)) rfl
  have x3 := X.out.at_ (g := w.heap.size) (i := 3) (v := .slice A3 n3 c3) (cs := [.int .i64 f0, .slice A1 n1 c1, .slice A2 n2 c2, .slice A3 n3 c3, .slice A4 n4 c4]) (by repeat (first | exact List.mem_cons_self | refine List.mem_cons_of_mem _ ?_)) rfl
  have y3 := X.out.at_ (g := w.heap.size + 1) (i := 3) (v := .slice B3 n3 k3) (cs := [.int .i64 f0, .slice B1 n1 k1, .slice B2 n2 k2, .slice B3 n3 k3, .slice B4 n4 k4]) (by repeat (first | exact List.mem_cons_self | refine List.mem_cons_of_mem _ ?_)) rfl
  have x4 := X.out.at_ (g := w.heap.size) (i := 4) (v := .slice A4 n4 c4) (cs := [.int .i64 f0, .slice A1 n1 c1, .slice A2 n2 c2, .slice A3 n3 c3, .slice A4 n4 c4]) (by repeat (first | exact List.mem_cons_self | refine List.mem_cons_of_mem _ ?_)) rfl
  have y4 := X.out.at_ (g := w.heap.size + 1) (i := 4) (v := .slice B4 n4 k4) (cs := [.int .i64 f0, .slice B1 n1 k1, .slice B2 n2 k2, .slice B3 n3 k3, .slice B4 n4 k4]) (by repeat (first | exact List.mem_cons_self | refine List.mem_cons_of_mem _ ?_)) rfl
  go_wp2_with fail
  refine (eqSentS L2 A2 B2 n2 n2 c2 k2 _ (HL2.out.below X.out.1) (HR2.out.below X.out.1) HT2.out hm2).mono ?_
  rintro e w2 ⟨rfl, hb⟩
  clear x0 x1 x2 x3 x4 y0 y1 y2 y3 y4
  replace X := Lib.hid (X.out.below hb)
  clear hb
  have x0 := X.out.at_ (g := w.heap.size) (i := 0) (v := .int .i64 f0) (cs := [.int .i64 f0, .slice A1 n1 c1, .slice A2 n2 c2, .slice A3 n3 c3, .slice A4 n4 c4]) (by repeat (first | exact List.mem_cons_self | refine List.mem_cons_of_mem _ ?_)) rfl
  have y0 := X.out.at_ (g := w.heap.size + 1) (i := 0) (v := .int .i64 f0) (cs := [.int .i64 f0, .slice B1 n1 k1, .slice B2 n2 k2, .slice B3 n3 k3, .slice B4 n4 k4]) (by repeat (first | exact List.mem_cons_self | refine List.mem_cons_of_mem _ ?_)) rfl
  have x1 := X.out.at_ (g := w.heap.size) (i := 1) (v := .slice A1 n1 c1) (cs := [.int .i64 f0, .slice A1 n1 c1, .slice A2 n2 c2, .slice A3 n3 c3, .slice A4 n4 c4]) (by repeat (first | exact List.mem_cons_self | refine List.mem_cons_of_mem _ ?_)) rfl
  have y1 := X.out.at_ (g := w.heap.size + 1) (i := 1) (v := .slice B1 n1 k1) (cs := [.int .i64 f0, .slice B1 n1 k1, .slice B2 n2 k2, .slice B3 n3 k3, .slice B4 n4 k4]) (by repeat (first | exact List.mem_cons_self | refine List.mem_cons_of_mem _ ?_)) rfl
  have x2 := X.out.at_ (g := w.heap.size) (i := 2) (v := .slice A2 n2 c2) (cs := [.int .i64 f0, .slice A1 n1 c1, .slice A2 n2 c2, .slice A3 n3 c3, .slice A4 n4 c4]) (by repeat (first | exact List.mem_cons_self | refine List.mem_cons_of_mem _ ?_)) rfl
  have y2 := X.out.at_ (g := w.heap.size + 1) (i := 2) (v := .slice B2 n2 k2) (cs := [.int .i64 f0, .slice B1 n1 k1, .slice B2 n2 k2, .slice B3 n3 k3, .slice B4 n4 k4]) (by repeat (first | exact List.mem_cons_self | refine List.mem_cons_of_mem _ ?_)) rfl
  have x3 := X.out.at_ (g := w.heap.size) (i := 3) (v := .slice A3 n3 c3) (cs := [.int .i64 f0, .slice A1 n1 c1, .slice A2 n2 c2, .slice A3 n3 c3, .slice A4 n4 c4]) (by repeat (first | exact List.mem_cons_self | refine List.mem_cons_of_mem _ ?_)) rfl
  have y3 := X.out.at_ (g := w.heap.size + 1) (i := 3) (v := .slice B3 n3 k3) (cs := [.int .i64 f0, .slice B1 n1 k1, .slice B2 n2 k2, .slice B3 n3 k3, .slice B4 n4 k4]) (by repeat (first | exact List.mem_cons_self | refine List.mem_cons_of_mem _ ?_)) rfl
  have x4 := X.out.at_ (g := w.heap.size) (i := 4) (v := .slice A4 n4 c4) (cs := [.int .i64 f0, .slice A1 n1 c1, .slice A2 n2 c2, .slice A3 n3 c3, .slice A4 n4 c4]) (by repeat (first | exact List.mem_cons_self | refine List.mem_cons_of_mem _ ?_)) rfl
  have y4 := X.out.at_ (g := w.heap.size + 1) (i := 4) (v := .slice B4 n4 k4) (cs := [.int .i64 f0, .slice B1 n1 k1, .slice B2 n2 k2, .slice B3 n3 k3, .slice B4 n4 k4]) (by repeat (first | exact List.mem_cons_self | refine List.mem_cons_of_mem _ ?_)) rfl
  go_wp2_with fail
  refine (eqLinkS L3 A3 B3 n3 n3 c3 k3 _ (HL3.out.below X.out.1) (HR3.out.below X.out.1) HT3.out hm3).mono ?_
  rintro e w3 ⟨rfl, hb⟩
  clear x0 x1 x2 x3 x4 y0 y1 y2 y3 y4
  replace X := Lib.hid (X.out.below hb)
  clear hb
  have x0 := X.out.at_ (g := w.heap.size) (i := 0) (v := .int .i64 f0) (cs := [.int .i64 f0, .slice A1 n1 c1, .slice A2 n2 c2, .slice A3 n3 c3, .slice A4 n4 c4]) (by repeat (first | exact List.mem_cons_self | refine List.mem_cons_of_mem _ ?_)) rfl
  have y0 := X.out.at_ (g := w.heap.size + 1) (i := 0) (v := .int .i64 f0) (cs := [.int .i64 f0, .slice B1 n1 k1, .slice B2 n2 k2, .slice B3 n3 k3, .slice B4 n4 k4]) (by repeat (first | exact List.mem_cons_self | refine List.mem_cons_of_mem _ ?_)) rfl
  have x1 := X.out.at_ (g := w.heap.size) (i := 1) (v := .slice A1 n1 c1) (cs := [.int .i64 f0, .slice A1 n1 c1, .slice A2 n2 c2, .slice A3 n3 c3, .slice A4 n4 c4]) (by repeat (first | exact List.mem_cons_self | refine List.mem_cons_of_mem _ ?_)) rfl
  have y1 := X.out.at_ (g := w.heap.size + 1) (i := 1) (v := .slice B1 n1 k1) (cs := [.int .i64 f0, .slice B1 n1 k1, .slice B2 n2 k2, .slice B3 n3 k3, .slice B4 n4 k4]) (by repeat (first | exact List.mem_cons_self | refine List.mem_cons_of_mem _ ?_)) rfl
  have x2 := X.out.at_ (g := w.heap.size) (i := 2) (v := .slice A2 n2 c2) (cs := [.int .i64 f0, .slice A1 n1 c1, .slice A2 n2 c2, .slice A3 n3 c3, .slice A4 n4 c4]) (by repeat (first | exact List.mem_cons_self | refine List.mem_cons_of_mem _ ?_)) rfl
  have y2 := X.out.at_ (g := w.heap.size + 1) (i := 2) (v := .slice B2 n2 k2) (cs := [.int .i64 f0, .slice B1 n1 k1, .slice B2 n2 k2, .slice B3 n3 k3, .slice B4 n4 k4]) (by repeat (first | exact List.mem_cons_self | refine List.mem_cons_of_mem _ ?_)) rfl
  have x3 := X.out.at_ (g := w.heap.size) (i := 3) (v := .slice A3 n3 c3) (cs := [.int .i64 f0, .slice A1 n1 c1, .slice A2 n2 c2, .slice A3 n3 c3, .slice A4 n4 c4]) (by repeat (first | exact List.mem_cons_self | refine List.mem_cons_of_mem _ ?_)) rfl
  have y3 := X.out.at_ (g := w.heap.size + 1) (i := 3) (v := .slice B3 n3 k3) (cs := [.int .i64 f0, .slice B1 n1 k1, .slice B2 n2 k2, .slice B3 n3 k3, .slice B4 n4 k4]) (by repeat (first | exact List.mem_cons_self | refine List.mem_cons_of_mem _ ?_)) rfl
  have x4 := X.out.at_ (g := w.heap.size) (i := 4) (v := .slice A4 n4 c4) (cs := [.int .i64 f0, .slice A1 n1 c1, .slice A2 n2 c2, .slice A3 n3 c3, .slice A4 n4 c4]) (by repeat (first | exact List.mem_cons_self | refine List.mem_cons_of_mem _ ?_)) rfl
  have y4 := X.out.at_ (g := w.heap.size + 1) (i := 4) (v := .slice B4 n4 k4) (cs := [.int .i64 f0, .slice B1 n1 k1, .slice B2 n2 k2, .slice B3 n3 k3, .slice B4 n4 k4]) (by repeat (first | exact List.mem_cons_self | refine List.mem_cons_of_mem _ ?_)) rfl
  go_wp2_with fail
  refine (eqOutgoingS L4 A4 B4 n4 n4 c4 k4 _ (HL4.out.below X.out.1) (HR4.out.below X.out.1) HT4.out hm4).mono ?_
  rintro e w4 ⟨rfl, hb⟩
  clear x0 x1 x2 x3 x4 y0 y1 y2 y3 y4
  replace X := Lib.hid (X.out.below hb)
  clear hb
  go_wp2_with fail
  go_ret
  exact GivesBool.ret X.out.1
end Go.Proofs.Ytmeacgpebpfpbaa
end
section
namespace Go.Proofs.Ytmeacgpebpfpbaa
open Go.RowKit
set_option linter.unusedVariables false
set_option linter.unusedSimpArgs false
theorem noneValue {L : List Dat} (ht : ∀ x ∈ L, Has tyValue x) : bulkAll L = 0 := bulk_none (t := tyValue) rfl ht
set_option maxRecDepth 100000 in
set_option maxHeartbeats 4000000 in
theorem szValueS (L : List Dat) (A : Option Addr) (n c : Nat) (left : Int) (w : World) (h0 : 0 ≤ left) (h1 : left ≤ 1099511627776) (h : Lies w (.l L) [.slice A n c]) (ht : ∀ x ∈ L, Has tyValue x) (hn : n ≤ 9223372036854775807) : Calls Try.prog 95 #[.slice A n c, .int .i64 left] w (GivesInt (leftD (Dat.l L) left) w) := by
  have hc : (Dat.l L).bulk = n := by rw [Dat.bulk, noneValue ht, h.count]; rfl
  have HC := Lib.hid hc
  clear h ht hc
  by_cases g0 : left - n < 0
  · go_enter Try.func95, Try.ntmps95
    go_wp2
    go_ret
    exact GivesInt.ret (leftD_no (by have := HC.out; omega)) (Below.refl _ _)
  · go_enter Try.func95, Try.ntmps95
    go_wp2
    go_ret
    exact GivesInt.ret (leftD_ok (by have := HC.out; omega) (by have := HC.out; omega)) (Below.refl _ _)
set_option maxHeartbeats 4000000 in
theorem szSent (f0 : Int) (f1 : ByteArray) (L2 : List Dat) (A2 : Option Addr) (n2 c2 : Nat) (f3 : Int) (f4_0 : Int) (f4_1 : Int) (f4_2 : Int) (left : Int) (w : World) (h0 : 0 ≤ left) (h1 : left ≤ 1099511627776) (hf1 : f1.size ≤ 9223372036854775807) (hl2 : Lies w (.l L2) [.slice A2 n2 c2]) (ht2 : ∀ x ∈ L2, Has tyValue x) (hm2 : n2 ≤ 9223372036854775807) : Calls Try.prog 147 #[.agg #[.int .i64 f0, .string f1, .slice A2 n2 c2, .int .i64 f3, .int .i64 f4_0, .int .i64 f4_1, .int .i64 f4_2], .int .i64 left] w (GivesInt (leftD (.r [.i f0, .s f1, .l L2, .i f3, .r [.i f4_0, .i f4_1, .i f4_2]]) left) w) := by
  have HL2 := Lib.hid hl2
  have HT2 := Lib.hid ht2
  clear hl2 ht2
  have X := Lib.hid ((Held.start w).push #[.int .i64 f0, .string f1, .slice A2 n2 c2, .int .i64 f3, .int .i64 f4_0, .int .i64 f4_1, .int .i64 f4_2] 185)
  go_enter Try.func147, Try.ntmps147
  by_cases g1 : left - f1.size < 0
  · go_wp2_with fail
    go_ret
    exact GivesInt.ret (leftD_no (by simp only [Dat.bulk, bulkAll] at *; omega)) X.out.1
  · skip
    go_wp2_with fail
    refine (szValueS L2 A2 n2 c2 (left - f1.size) _ (by omega) (by omega) (HL2.out.below (X.out.1)) HT2.out hm2).mono ?_
    rintro e w1 ⟨rfl, hb⟩
    replace X := Lib.hid (X.out.below hb)
    clear hb
    by_cases g2 : left - f1.size - (Dat.l L2).bulk < 0
    · rw [show leftD (Dat.l L2) (left - f1.size) = -1 from if_pos g2]
      have hneg : Hid (left - (.r [.i f0, .s f1, .l L2, .i f3, .r [.i f4_0, .i f4_1, .i f4_2]] : Dat).bulk < 0) := Lib.hid (by simp only [Dat.bulk, bulkAll] at *; omega)
      go_wp2_with fail
      go_ret
      exact GivesInt.ret (leftD_no hneg.out) X.out.1
    · rw [show leftD (Dat.l L2) (left - f1.size) = left - f1.size - (Dat.l L2).bulk from if_neg g2]
      obtain ⟨r2, hr2⟩ : ∃ r, r = left - f1.size - (Dat.l L2).bulk := ⟨_, rfl⟩
      rw [← hr2]
      have hp2 : 0 ≤ r2 := by omega
      have hu2 : r2 ≤ 1099511627776 := by omega
      have HR2 := Lib.hid hr2
      clear hr2 g2
      have hend : Hid (r2 = leftD (.r [.i f0, .s f1, .l L2, .i f3, .r [.i f4_0, .i f4_1, .i f4_2]]) left) := Lib.hid (leftD_ok (by have q0 := HR2.out; simp only [Dat.bulk, bulkAll] at *; omega) (by have q0 := HR2.out; simp only [Dat.bulk, bulkAll] at *; omega))
      go_wp2_with fail
      go_ret
      exact GivesInt.ret hend.out X.out.1
set_option maxRecDepth 100000 in
set_option maxHeartbeats 4000000 in
theorem szSentS (L : List Dat) (A : Option Addr) (n c : Nat) (left : Int) (w : World) (h0 : 0 ≤ left) (h1 : left ≤ 1099511627776) (h : Lies w (.l L) [.slice A n c]) (ht : ∀ x ∈ L, Has tySent x) (hn : n ≤ 9223372036854775807) : Calls Try.prog 86 #[.slice A n c, .int .i64 left] w (GivesInt (leftD (Dat.l L) left) w) := by
  have H := Lib.hid h
  have HT := Lib.hid ht
  have hc := h.count
  have HC := Lib.hid hc
  clear h ht hc
  by_cases g0 : left - n < 0
  · go_enter Try.func86, Try.ntmps86
    go_wp2
    go_ret
    exact GivesInt.ret (leftD_no (by have := HC.out; simp only [Dat.bulk]; omega)) (Below.refl _ _)
  · go_enter Try.func86, Try.ntmps86
    go_wp2
    go_loopw [1, 5] (fun lv iv wr => ∃ (i : Nat) (r : Int), i ≤ n ∧ iv = .int .i64 i ∧ lv = .int .i64 r ∧ r = left - n - bulkAll (L.take i) ∧ 0 ≤ r ∧ r ≤ left ∧ Below w.heap.size w wr) (fun _ iv _ => n - (intOf iv).toNat)
    case atStart => exact ⟨0, left - n, Nat.zero_le _, rfl, rfl, by simp [bulkAll], by omega, by omega, Below.refl _ _⟩
    case round =>
      obtain ⟨i, r, hin, rfl, rfl, hr, hr0, hr1, hb⟩ := hrel
      have HR := Lib.hid hr
      clear hr
      by_cases hlt : i < n
      · obtain ⟨b, off, d, xs, rfl, hbw, hzi, hlie, hlen, hcell⟩ := (H.out.below hb).elem (fun x hx => (HT.out x hx).width) hlt
        obtain ⟨f0, f1, L2, A2, n2, c2, f3, f4_0, f4_1, f4_2, rfl, rfl, hf1, hl2, ht2, hm2⟩ := invSent (HT.out d (List.mem_of_getElem? hzi)) hlie
        have r0 : wr.cell? ⟨b, off + i * 7, none⟩ = some (.int .i64 f0) := hcell 0 _ rfl
        have r1 : wr.cell? ⟨b, off + i * 7 + 1, none⟩ = some (.string f1) := hcell 1 _ rfl
        have r2 : wr.cell? ⟨b, off + i * 7 + 2, none⟩ = some (.slice A2 n2 c2) := hcell 2 _ rfl
        have r3 : wr.cell? ⟨b, off + i * 7 + 3, none⟩ = some (.int .i64 f3) := hcell 3 _ rfl
        have r4 : wr.cell? ⟨b, off + i * 7 + 4, none⟩ = some (.int .i64 f4_0) := hcell 4 _ rfl
        have r5 : wr.cell? ⟨b, off + i * 7 + 5, none⟩ = some (.int .i64 f4_1) := hcell 5 _ rfl
        have r6 : wr.cell? ⟨b, off + i * 7 + 6, none⟩ = some (.int .i64 f4_2) := hcell 6 _ rfl
        have HZ := Lib.hid (bulk_next hzi)
        have HM := Lib.hid (bulk_take_le L (i + 1))
        have HBR := Lib.hid hb
        clear hzi hb hcell hlie
        go_wp2_with fail
        refine (szSent f0 f1 L2 A2 n2 c2 f3 f4_0 f4_1 f4_2 r _ hr0 (by omega) hf1 hl2 ht2 hm2).mono ?_
        rintro e w2 ⟨rfl, hb2⟩
        have HB2 := Lib.hid (HBR.out.trans (hb2.mono HBR.out.size))
        clear hb2 hl2 ht2
        by_cases g1 : r - (.r [.i f0, .s f1, .l L2, .i f3, .r [.i f4_0, .i f4_1, .i f4_2]] : Dat).bulk < 0
        · rw [show leftD (.r [.i f0, .s f1, .l L2, .i f3, .r [.i f4_0, .i f4_1, .i f4_2]]) r = -1 from if_pos g1]
          have hneg : left - (Dat.l L).bulk < 0 := by have h1 := HZ.out; have h2 := HM.out; have h3 := HC.out; have h4 := HR.out; rw [Dat.bulk]; omega
          go_wp2_with fail
          go_ret
          exact GivesInt.ret (leftD_no hneg) HB2.out
        · rw [show leftD (.r [.i f0, .s f1, .l L2, .i f3, .r [.i f4_0, .i f4_1, .i f4_2]]) r = r - (.r [.i f0, .s f1, .l L2, .i f3, .r [.i f4_0, .i f4_1, .i f4_2]] : Dat).bulk from if_neg g1]
          have HE : Hid (r - (.r [.i f0, .s f1, .l L2, .i f3, .r [.i f4_0, .i f4_1, .i f4_2]] : Dat).bulk = left - n - bulkAll (L.take (i + 1))) := Lib.hid (by have h1 := HZ.out; have h4 := HR.out; omega)
          have hp0 : 0 ≤ r - (.r [.i f0, .s f1, .l L2, .i f3, .r [.i f4_0, .i f4_1, .i f4_2]] : Dat).bulk := by omega
          have hp1 : r - (.r [.i f0, .s f1, .l L2, .i f3, .r [.i f4_0, .i f4_1, .i f4_2]] : Dat).bulk ≤ left := by omega
          generalize r - (.r [.i f0, .s f1, .l L2, .i f3, .r [.i f4_0, .i f4_1, .i f4_2]] : Dat).bulk = rr at *
          go_wp2_with fail
          go_roundw
          case rel => exact ⟨i + 1, rr, by omega, by go_num, rfl, HE.out, hp0, hp1, HB2.out⟩
          case measure => simp [intOf]; omega
      · obtain rfl : i = n := by omega
        have HBR := Lib.hid hb
        clear hb
        have hE : r = leftD (Dat.l L) left := by
          have h4 := HR.out
          have h3 := HC.out
          rw [List.take_of_length_le (by omega)] at h4
          rw [leftD, if_neg (by rw [Dat.bulk]; omega), Dat.bulk]
          omega
        have HE := Lib.hid hE
        clear hE
        go_wp2_with fail
        go_ret
        exact GivesInt.ret HE.out HBR.out
theorem noneAsker {L : List Dat} (ht : ∀ x ∈ L, Has tyAsker x) : bulkAll L = 0 := bulk_none (t := tyAsker) rfl ht
set_option maxRecDepth 100000 in
set_option maxHeartbeats 4000000 in
theorem szAskerS (L : List Dat) (A : Option Addr) (n c : Nat) (left : Int) (w : World) (h0 : 0 ≤ left) (h1 : left ≤ 1099511627776) (h : Lies w (.l L) [.slice A n c]) (ht : ∀ x ∈ L, Has tyAsker x) (hn : n ≤ 9223372036854775807) : Calls Try.prog 96 #[.slice A n c, .int .i64 left] w (GivesInt (leftD (Dat.l L) left) w) := by
  have hc : (Dat.l L).bulk = n := by rw [Dat.bulk, noneAsker ht, h.count]; rfl
  have HC := Lib.hid hc
  clear h ht hc
  by_cases g0 : left - n < 0
  · go_enter Try.func96, Try.ntmps96
    go_wp2
    go_ret
    exact GivesInt.ret (leftD_no (by have := HC.out; omega)) (Below.refl _ _)
  · go_enter Try.func96, Try.ntmps96
    go_wp2
    go_ret
    exact GivesInt.ret (leftD_ok (by have := HC.out; omega) (by have := HC.out; omega)) (Below.refl _ _)
set_option maxHeartbeats 4000000 in
theorem szEntity (f0 : Int) (f1 : Int) (L2 : List Dat) (A2 : Option Addr) (n2 c2 : Nat) (f3 : Int) (f4_0 : Int) (f4_1 : Int) (L5 : List Dat) (A5 : Option Addr) (n5 c5 : Nat) (L6 : List Dat) (A6 : Option Addr) (n6 c6 : Nat) (f7 : Int) (f8 : Int) (f9 : Int) (f10 : Int) (left : Int) (w : World) (h0 : 0 ≤ left) (h1 : left ≤ 1099511627776) (hl2 : Lies w (.l L2) [.slice A2 n2 c2]) (ht2 : ∀ x ∈ L2, Has tyValue x) (hm2 : n2 ≤ 9223372036854775807) (hl5 : Lies w (.l L5) [.slice A5 n5 c5]) (ht5 : ∀ x ∈ L5, Has tySent x) (hm5 : n5 ≤ 9223372036854775807) (hl6 : Lies w (.l L6) [.slice A6 n6 c6]) (ht6 : ∀ x ∈ L6, Has tyAsker x) (hm6 : n6 ≤ 9223372036854775807) : Calls Try.prog 35 #[.agg #[.int .i64 f0, .int .i64 f1, .slice A2 n2 c2, .int .i64 f3, .int .i64 f4_0, .int .i64 f4_1, .slice A5 n5 c5, .slice A6 n6 c6, .int .i64 f7, .int .i64 f8, .int .i64 f9, .int .i64 f10], .int .i64 left] w (GivesInt (leftD (.r [.i f0, .i f1, .l L2, .i f3, .r [.i f4_0, .i f4_1], .l L5, .l L6, .i f7, .i f8, .i f9, .i f10]) left) w) := by
  have HL2 := Lib.hid hl2
  have HT2 := Lib.hid ht2
  clear hl2 ht2
  have HL5 := Lib.hid hl5
  have HT5 := Lib.hid ht5
  clear hl5 ht5
  have HL6 := Lib.hid hl6
  have HT6 := Lib.hid ht6
  clear hl6 ht6
  have X := Lib.hid ((Held.start w).push #[.int .i64 f0, .int .i64 f1, .slice A2 n2 c2, .int .i64 f3, .int .i64 f4_0, .int .i64 f4_1, .slice A5 n5 c5, .slice A6 n6 c6, .int .i64 f7, .int .i64 f8, .int .i64 f9, .int .i64 f10] 71)
  go_enter Try.func35, Try.ntmps35
  go_wp2_with fail
  refine (szValueS L2 A2 n2 c2 (left) _ (by omega) (by omega) (HL2.out.below (X.out.1)) HT2.out hm2).mono ?_
  rintro e w1 ⟨rfl, hb⟩
  replace X := Lib.hid (X.out.below hb)
  clear hb
  by_cases g2 : left - (Dat.l L2).bulk < 0
  · rw [show leftD (Dat.l L2) (left) = -1 from if_pos g2]
    have hneg : Hid (left - (.r [.i f0, .i f1, .l L2, .i f3, .r [.i f4_0, .i f4_1], .l L5, .l L6, .i f7, .i f8, .i f9, .i f10] : Dat).bulk < 0) := Lib.hid (by simp only [Dat.bulk, bulkAll] at *; omega)
    go_wp2_with fail
    go_ret
    exact GivesInt.ret (leftD_no hneg.out) X.out.1
  · rw [show leftD (Dat.l L2) (left) = left - (Dat.l L2).bulk from if_neg g2]
    obtain ⟨r2, hr2⟩ : ∃ r, r = left - (Dat.l L2).bulk := ⟨_, rfl⟩
    rw [← hr2]
    have hp2 : 0 ≤ r2 := by omega
    have hu2 : r2 ≤ 1099511627776 := by omega
    have HR2 := Lib.hid hr2
    clear hr2 g2
    have x0 := X.out.at_ (g := w.heap.size) (i := 0) (v := .int .i64 f0) (cs := [.int .i64 f0, .int .i64 f1, .slice A2 n2 c2, .int .i64 f3, .int .i64 f4_0, .int .i64 f4_1, .slice A5 n5 c5, .slice A6 n6 c6, .int .i64 f7, .int .i64 f8, .int .i64 f9, .int .i64 f10]) (by repeat (first | exact List.mem_cons_self | refine List.mem_cons_of_mem _ ?_)) rfl
    have x1 := X.out.at_ (g := w.heap.size) (i := 1) (v := .int .i64 f1) (cs := [.int .i64 f0, .int .i64 f1, .slice A2 n2 c2, .int .i64 f3, .int .i64 f4_0, .int .i64 f4_1, .slice A5 n5 c5, .slice A6 n6 c6, .int .i64 f7, .int .i64 f8, .int .i64 f9, .int .i64 f10]) (by repeat (first | exact List.mem_cons_self | refine List.mem_cons_of_mem _ ?_)) rfl
    have x2 := X.out.at_ (g := w.heap.size) (i := 2) (v := .slice A2 n2 c2) (cs := [.int .i64 f0, .int .i64 f1, .slice A2 n2 c2, .int .i64 f3, .int .i64 f4_0, .int .i64 f4_1, .slice A5 n5 c5, .slice A6 n6 c6, .int .i64 f7, .int .i64 f8, .int .i64 f9, .int .i64 f10]) (by repeat (first | exact List.mem_cons_self | refine List.mem_cons_of_mem _ ?_)) rfl
    have x3 := X.out.at_ (g := w.heap.size) (i := 3) (v := .int .i64 f3) (cs := [.int .i64 f0, .int .i64 f1, .slice A2 n2 c2, .int .i64 f3, .int .i64 f4_0, .int .i64 f4_1, .slice A5 n5 c5, .slice A6 n6 c6, .int .i64 f7, .int .i64 f8, .int .i64 f9, .int .i64 f10]) (by repeat (first | exact List.mem_cons_self | refine List.mem_cons_of_mem _ ?_)) rfl
    have x4 := X.out.at_ (g := w.heap.size) (i := 4) (v := .int .i64 f4_0) (cs := [.int .i64 f0, .int .i64 f1, .slice A2 n2 c2, .int .i64 f3, .int .i64 f4_0, .int .i64 f4_1, .slice A5 n5 c5, .slice A6 n6 c6, .int .i64 f7, .int .i64 f8, .int .i64 f9, .int .i64 f10]) (by repeat (first | exact List.mem_cons_self | refine List.mem_cons_of_mem _ ?_)) rfl
    have x5 := X.out.at_ (g := w.heap.size) (i := 5) (v := .int .i64 f4_1) (cs := [.int .i64 f0, .int .i64 f1, .slice A2 n2 c2, .int .i64 f3, .int .i64 f4_0, .int .i64 f4_1, .slice A5 n5 c5, .slice A6 n6 c6, .int .i64 f7, .int .i64 f8, .int .i64 f9, .int .i64 f10]) (by repeat (first | exact List.mem_cons_self | refine List.mem_cons_of_mem _ ?_)) rfl
    have x6 := X.out.at_ (g := w.heap.size) (i := 6) (v := .slice A5 n5 c5) (cs := [.int .i64 f0, .int .i64 f1, .slice A2 n2 c2, .int .i64 f3, .int .i64 f4_0, .int .i64 f4_1, .slice A5 n5 c5, .slice A6 n6 c6, .int .i64 f7, .int .i64 f8, .int .i64 f9, .int .i64 f10]) (by repeat (first | exact List.mem_cons_self | refine List.mem_cons_of_mem _ ?_)) rfl
    have x7 := X.out.at_ (g := w.heap.size) (i := 7) (v := .slice A6 n6 c6) (cs := [.int .i64 f0, .int .i64 f1, .slice A2 n2 c2, .int .i64 f3, .int .i64 f4_0, .int .i64 f4_1, .slice A5 n5 c5, .slice A6 n6 c6, .int .i64 f7, .int .i64 f8, .int .i64 f9, .int .i64 f10]) (by repeat (first | exact List.mem_cons_self | refine List.mem_cons_of_mem _ ?_)) rfl
    have x8 := X.out.at_ (g := w.heap.size) (i := 8) (v := .int .i64 f7) (cs := [.int .i64 f0, .int .i64 f1, .slice A2 n2 c2, .int .i64 f3, .int .i64 f4_0, .int .i64 f4_1, .slice A5 n5 c5, .slice A6 n6 c6, .int .i64 f7, .int .i64 f8, .int .i64 f9, .int .i64 f10]) (by repeat (first | exact List.mem_cons_self | refine List.mem_cons_of_mem _ ?_)) rfl
    have x9 := X.out.at_ (g := w.heap.size) (i := 9) (v := .int .i64 f8) (cs := [.int .i64 f0, .int .i64 f1, .slice A2 n2 c2, .int .i64 f3, .int .i64 f4_0, .int .i64 f4_1, .slice A5 n5 c5, .slice A6 n6 c6, .int .i64 f7, .int .i64 f8, .int .i64 f9, .int .i64 f10]) (by repeat (first | exact List.mem_cons_self | refine List.mem_cons_of_mem _ ?_)) rfl
    have x10 := X.out.at_ (g := w.heap.size) (i := 10) (v := .int .i64 f9) (cs := [.int .i64 f0, .int .i64 f1, .slice A2 n2 c2, .int .i64 f3, .int .i64 f4_0, .int .i64 f4_1, .slice A5 n5 c5, .slice A6 n6 c6, .int .i64 f7, .int .i64 f8, .int .i64 f9, .int .i64 f10]) (by repeat (first | exact List.mem_cons_self | refine List.mem_cons_of_mem _ ?_)) rfl
    have x11 := X.out.at_ (g := w.heap.size) (i := 11) (v := .int .i64 f10) (cs := [.int .i64 f0, .int .i64 f1, .slice A2 n2 c2, .int .i64 f3, .int .i64 f4_0, .int .i64 f4_1, .slice A5 n5 c5, .slice A6 n6 c6, .int .i64 f7, .int .i64 f8, .int .i64 f9, .int .i64 f10]) (by repeat (first | exact List.mem_cons_self | refine List.mem_cons_of_mem _ ?_)) rfl
    go_wp2_with fail
    refine (szSentS L5 A5 n5 c5 (r2) _ (by omega) (by omega) (HL5.out.below (X.out.1)) HT5.out hm5).mono ?_
    rintro e w2 ⟨rfl, hb⟩
    clear x0 x1 x2 x3 x4 x5 x6 x7 x8 x9 x10 x11
    replace X := Lib.hid (X.out.below hb)
    clear hb
    by_cases g5 : r2 - (Dat.l L5).bulk < 0
    · rw [show leftD (Dat.l L5) (r2) = -1 from if_pos g5]
      have hneg : Hid (left - (.r [.i f0, .i f1, .l L2, .i f3, .r [.i f4_0, .i f4_1], .l L5, .l L6, .i f7, .i f8, .i f9, .i f10] : Dat).bulk < 0) := Lib.hid (by have q0 := HR2.out; simp only [Dat.bulk, bulkAll] at *; omega)
      go_wp2_with fail
      go_ret
      exact GivesInt.ret (leftD_no hneg.out) X.out.1
    · rw [show leftD (Dat.l L5) (r2) = r2 - (Dat.l L5).bulk from if_neg g5]
      obtain ⟨r5, hr5⟩ : ∃ r, r = r2 - (Dat.l L5).bulk := ⟨_, rfl⟩
      rw [← hr5]
      have hp5 : 0 ≤ r5 := by omega
      have hu5 : r5 ≤ 1099511627776 := by omega
      have HR5 := Lib.hid hr5
      clear hr5 g5
      have x0 := X.out.at_ (g := w.heap.size) (i := 0) (v := .int .i64 f0) (cs := [.int .i64 f0, .int .i64 f1, .slice A2 n2 c2, .int .i64 f3, .int .i64 f4_0, .int .i64 f4_1, .slice A5 n5 c5, .slice A6 n6 c6, .int .i64 f7, .int .i64 f8, .int .i64 f9, .int .i64 f10]) (by repeat (first | exact List.mem_cons_self | refine List.mem_cons_of_mem _ ?_)) rfl
      have x1 := X.out.at_ (g := w.heap.size) (i := 1) (v := .int .i64 f1) (cs := [.int .i64 f0, .int .i64 f1, .slice A2 n2 c2, .int .i64 f3, .int .i64 f4_0, .int .i64 f4_1, .slice A5 n5 c5, .slice A6 n6 c6, .int .i64 f7, .int .i64 f8, .int .i64 f9, .int .i64 f10]) (by repeat (first | exact List.mem_cons_self | refine List.mem_cons_of_mem _ ?_)) rfl
      have x2 := X.out.at_ (g := w.heap.size) (i := 2) (v := .slice A2 n2 c2) (cs := [.int .i64 f0, .int .i64 f1, .slice A2 n2 c2, .int .i64 f3, .int .i64 f4_0, .int .i64 f4_1, .slice A5 n5 c5, .slice A6 n6 c6, .int .i64 f7, .int .i64 f8, .int .i64 f9, .int .i64 f10]) (by repeat (first | exact List.mem_cons_self | refine List.mem_cons_of_mem _ ?_)) rfl
      have x3 := X.out.at_ (g := w.heap.size) (i := 3) (v := .int .i64 f3) (cs := [.int .i64 f0, .int .i64 f1, .slice A2 n2 c2, .int .i64 f3, .int .i64 f4_0, .int .i64 f4_1, .slice A5 n5 c5, .slice A6 n6 c6, .int .i64 f7, .int .i64 f8, .int .i64 f9, .int .i64 f10]) (by repeat (first | exact List.mem_cons_self | refine List.mem_cons_of_mem _ ?_)) rfl
      have x4 := X.out.at_ (g := w.heap.size) (i := 4) (v := .int .i64 f4_0) (cs := [.int .i64 f0, .int .i64 f1, .slice A2 n2 c2, .int .i64 f3, .int .i64 f4_0, .int .i64 f4_1, .slice A5 n5 c5, .slice A6 n6 c6, .int .i64 f7, .int .i64 f8, .int .i64 f9, .int .i64 f10]) (by repeat (first | exact List.mem_cons_self | refine List.mem_cons_of_mem _ ?_)) rfl
      have x5 := X.out.at_ (g := w.heap.size) (i := 5) (v := .int .i64 f4_1) (cs := [.int .i64 f0, .int .i64 f1, .slice A2 n2 c2, .int .i64 f3, .int .i64 f4_0, .int .i64 f4_1, .slice A5 n5 c5, .slice A6 n6 c6, .int .i64 f7, .int .i64 f8, .int .i64 f9, .int .i64 f10]) (by repeat (first | exact List.mem_cons_self | refine List.mem_cons_of_mem _ ?_)) rfl
      have x6 := X.out.at_ (g := w.heap.size) (i := 6) (v := .slice A5 n5 c5) (cs := [.int .i64 f0, .int .i64 f1, .slice A2 n2 c2, .int .i64 f3, .int .i64 f4_0, .int .i64 f4_1, .slice A5 n5 c5, .slice A6 n6 c6, .int .i64 f7, .int .i64 f8, .int .i64 f9, .int .i64 f10]) (by repeat (first | exact List.mem_cons_self | refine List.mem_cons_of_mem _ ?_)) rfl
      have x7 := X.out.at_ (g := w.heap.size) (i := 7) (v := .slice A6 n6 c6) (cs := [.int .i64 f0, .int .i64 f1, .slice A2 n2 c2, .int .i64 f3, .int .i64 f4_0, .int .i64 f4_1, .slice A5 n5 c5, .slice A6 n6 c6, .int .i64 f7, .int .i64 f8, .int .i64 f9, .int .i64 f10]) (by repeat (first | exact List.mem_cons_self | refine List.mem_cons_of_mem _ ?_)) rfl
      have x8 := X.out.at_ (g := w.heap.size) (i := 8) (v := .int .i64 f7) (cs := [.int .i64 f0, .int .i64 f1, .slice A2 n2 c2, .int .i64 f3, .int .i64 f4_0, .int .i64 f4_1, .slice A5 n5 c5, .slice A6 n6 c6, .int .i64 f7, .int .i64 f8, .int .i64 f9, .int .i64 f10]) (by repeat (first | exact List.mem_cons_self | refine List.mem_cons_of_mem _ ?_)) rfl
      have x9 := X.out.at_ (g := w.heap.size) (i := 9) (v := .int .i64 f8) (cs := [.int .i64 f0, .int .i64 f1, .slice A2 n2 c2, .int .i64 f3, .int .i64 f4_0, .int .i64 f4_1, .slice A5 n5 c5, .slice A6 n6 c6, .int .i64 f7, .int .i64 f8, .int .i64 f9, .int .i64 f10]) (by repeat (first | exact List.mem_cons_self | refine List.mem_cons_of_mem _ ?_)) rfl
      have x10 := X.out.at_ (g := w.heap.size) (i := 10) (v := .int .i64 f9) (cs := [.int .i64 f0, .int .i64 f1, .slice A2 n2 c2, .int .i64 f3, .int .i64 f4_0, .int .i64 f4_1, .slice A5 n5 c5, .slice A6 n6 c6, .int .i64 f7, .int .i64 f8, .int .i64 f9, .int .i64 f10]) (by repeat (first | exact List.mem_cons_self | refine List.mem_cons_of_mem _ ?_)) rfl
      have x11 := X.out.at_ (g := w.heap.size) (i := 11) (v := .int .i64 f10) (cs := [.int .i64 f0, .int .i64 f1, .slice A2 n2 c2, .int .i64 f3, .int .i64 f4_0, .int .i64 f4_1, .slice A5 n5 c5, .slice A6 n6 c6, .int .i64 f7, .int .i64 f8, .int .i64 f9, .int .i64 f10]) (by repeat (first | exact List.mem_cons_self | refine List.mem_cons_of_mem _ ?_)) rfl
      go_wp2_with fail
      refine (szAskerS L6 A6 n6 c6 (r5) _ (by omega) (by omega) (HL6.out.below (X.out.1)) HT6.out hm6).mono ?_
      rintro e w3 ⟨rfl, hb⟩
      clear x0 x1 x2 x3 x4 x5 x6 x7 x8 x9 x10 x11
      replace X := Lib.hid (X.out.below hb)
      clear hb
      by_cases g6 : r5 - (Dat.l L6).bulk < 0
      · rw [show leftD (Dat.l L6) (r5) = -1 from if_pos g6]
        have hneg : Hid (left - (.r [.i f0, .i f1, .l L2, .i f3, .r [.i f4_0, .i f4_1], .l L5, .l L6, .i f7, .i f8, .i f9, .i f10] : Dat).bulk < 0) := Lib.hid (by have q0 := HR2.out; have q1 := HR5.out; simp only [Dat.bulk, bulkAll] at *; omega)
        go_wp2_with fail
        go_ret
        exact GivesInt.ret (leftD_no hneg.out) X.out.1
      · rw [show leftD (Dat.l L6) (r5) = r5 - (Dat.l L6).bulk from if_neg g6]
        obtain ⟨r6, hr6⟩ : ∃ r, r = r5 - (Dat.l L6).bulk := ⟨_, rfl⟩
        rw [← hr6]
        have hp6 : 0 ≤ r6 := by omega
        have hu6 : r6 ≤ 1099511627776 := by omega
        have HR6 := Lib.hid hr6
        clear hr6 g6
        have hend : Hid (r6 = leftD (.r [.i f0, .i f1, .l L2, .i f3, .r [.i f4_0, .i f4_1], .l L5, .l L6, .i f7, .i f8, .i f9, .i f10]) left) := Lib.hid (leftD_ok (by have q0 := HR2.out; have q1 := HR5.out; have q2 := HR6.out; simp only [Dat.bulk, bulkAll] at *; omega) (by have q0 := HR2.out; have q1 := HR5.out; have q2 := HR6.out; simp only [Dat.bulk, bulkAll] at *; omega))
        go_wp2_with fail
        go_ret
        exact GivesInt.ret hend.out X.out.1
end Go.Proofs.Ytmeacgpebpfpbaa
end
