/- The program's chapter 9: one message against another. -/
import Derived.Test.YtfgijebgnkikpaaEntV
import Derived.LoopTactic
import Derived.Lib.Hide
import Derived.Deep.QuietTactic
import Derived.BigQuiet
import Derived.Deep.RegionWith
import Derived.Handy
namespace Go.Proofs.Ytfgijebgnkikpaa
open Go.RowKit
set_option linter.unusedVariables false
set_option linter.unusedSimpArgs false
set_option maxRecDepth 100000 in
set_option maxHeartbeats 4000000 in
theorem implEqSent (f0 : Int) (f1 : ByteArray) (L2 : List Dat) (A2 : Option Addr) (n2 c2 : Nat) (f3 : Int) (f4_0 : Int) (f4_1 : Int) (f4_2 : Int) (g0 : Int) (g1 : ByteArray) (M2 : List Dat) (B2 : Option Addr) (m2 k2 : Nat) (g3 : Int) (g4_0 : Int) (g4_1 : Int) (g4_2 : Int) (w : World) (hl2 : Lies w (.l L2) [.slice A2 n2 c2]) (hr2 : Lies w (.l M2) [.slice B2 m2 k2]) (ht2 : ∀ x ∈ L2, Has tyValue x) (hu2 : ∀ x ∈ M2, Has tyValue x) (hn2 : n2 ≤ 1099511627776) : Calls Try.prog 77 #[.agg #[.int .i64 f0, .string f1, .slice A2 n2 c2, .int .i64 f3, .int .i64 f4_0, .int .i64 f4_1, .int .i64 f4_2], .agg #[.int .i64 g0, .string g1, .slice B2 m2 k2, .int .i64 g3, .int .i64 g4_0, .int .i64 g4_1, .int .i64 g4_2]] w (GivesBool (eq1 (.r [.i f0, .s f1, .l L2, .i f3, .r [.i f4_0, .i f4_1, .i f4_2]]) (.r [.i g0, .s g1, .l M2, .i g3, .r [.i g4_0, .i g4_1, .i g4_2]])) w) := by
  have HL2 := Lib.hid hl2
  have HR2 := Lib.hid hr2
  have HT2 := Lib.hid ht2
  have HU2 := Lib.hid hu2
  clear hl2 hr2 ht2 hu2
  have X := ((Held.start w).push #[.int .i64 f0, .string f1, .slice A2 n2 c2, .int .i64 f3, .int .i64 f4_0, .int .i64 f4_1, .int .i64 f4_2] 111).push #[.int .i64 g0, .string g1, .slice B2 m2 k2, .int .i64 g3, .int .i64 g4_0, .int .i64 g4_1, .int .i64 g4_2] 111
  simp only [World.size_alloc] at X
  replace X := Lib.hid X
  by_cases e0 : f0 = g0
  · subst e0
    by_cases e1 : f1 = g1
    · subst e1
      by_cases e2 : L2 = M2
      · subst e2
        by_cases e3 : f3 = g3
        · subst e3
          by_cases e4_0 : f4_0 = g4_0
          · subst e4_0
            by_cases e4_1 : f4_1 = g4_1
            · subst e4_1
              by_cases e4_2 : f4_2 = g4_2
              · subst e4_2
                have HN := Lib.hid (eq1_yes (.r [.i f0, .s f1, .l L2, .i f3, .r [.i f4_0, .i f4_1, .i f4_2]])).symm
                go_enter Try.func77, Try.ntmps77
                go_wp2_with fail
                refine (implEqVD (HL2.out.below X.out.1) (HR2.out.below X.out.1) HT2.out HU2.out hn2).mono ?_
                rintro e w2 ⟨rfl, hb⟩
                rw [eqD_yes]
                replace X := Lib.hid (X.out.below hb)
                clear hb
                have x0 := X.out.at_ (g := w.heap.size) (i := 0) (v := .int .i64 f0) (cs := [.int .i64 f0, .string f1, .slice A2 n2 c2, .int .i64 f3, .int .i64 f4_0, .int .i64 f4_1, .int .i64 f4_2]) (by repeat (first | exact List.mem_cons_self | refine List.mem_cons_of_mem _ ?_)) rfl
                have y0 := X.out.at_ (g := w.heap.size + 1) (i := 0) (v := .int .i64 f0) (cs := [.int .i64 f0, .string f1, .slice B2 m2 k2, .int .i64 f3, .int .i64 f4_0, .int .i64 f4_1, .int .i64 f4_2]) (by repeat (first | exact List.mem_cons_self | refine List.mem_cons_of_mem _ ?_)) rfl
                have x1 := X.out.at_ (g := w.heap.size) (i := 1) (v := .string f1) (cs := [.int .i64 f0, .string f1, .slice A2 n2 c2, .int .i64 f3, .int .i64 f4_0, .int .i64 f4_1, .int .i64 f4_2]) (by repeat (first | exact List.mem_cons_self | refine List.mem_cons_of_mem _ ?_)) rfl
                have y1 := X.out.at_ (g := w.heap.size + 1) (i := 1) (v := .string f1) (cs := [.int .i64 f0, .string f1, .slice B2 m2 k2, .int .i64 f3, .int .i64 f4_0, .int .i64 f4_1, .int .i64 f4_2]) (by repeat (first | exact List.mem_cons_self | refine List.mem_cons_of_mem _ ?_)) rfl
                have x2 := X.out.at_ (g := w.heap.size) (i := 2) (v := .slice A2 n2 c2) (cs := [.int .i64 f0, .string f1, .slice A2 n2 c2, .int .i64 f3, .int .i64 f4_0, .int .i64 f4_1, .int .i64 f4_2]) (by repeat (first | exact List.mem_cons_self | refine List.mem_cons_of_mem _ ?_)) rfl
                have y2 := X.out.at_ (g := w.heap.size + 1) (i := 2) (v := .slice B2 m2 k2) (cs := [.int .i64 f0, .string f1, .slice B2 m2 k2, .int .i64 f3, .int .i64 f4_0, .int .i64 f4_1, .int .i64 f4_2]) (by repeat (first | exact List.mem_cons_self | refine List.mem_cons_of_mem _ ?_)) rfl
                have x3 := X.out.at_ (g := w.heap.size) (i := 3) (v := .int .i64 f3) (cs := [.int .i64 f0, .string f1, .slice A2 n2 c2, .int .i64 f3, .int .i64 f4_0, .int .i64 f4_1, .int .i64 f4_2]) (by repeat (first | exact List.mem_cons_self | refine List.mem_cons_of_mem _ ?_)) rfl
                have y3 := X.out.at_ (g := w.heap.size + 1) (i := 3) (v := .int .i64 f3) (cs := [.int .i64 f0, .string f1, .slice B2 m2 k2, .int .i64 f3, .int .i64 f4_0, .int .i64 f4_1, .int .i64 f4_2]) (by repeat (first | exact List.mem_cons_self | refine List.mem_cons_of_mem _ ?_)) rfl
                have x4 := X.out.at_ (g := w.heap.size) (i := 4) (v := .int .i64 f4_0) (cs := [.int .i64 f0, .string f1, .slice A2 n2 c2, .int .i64 f3, .int .i64 f4_0, .int .i64 f4_1, .int .i64 f4_2]) (by repeat (first | exact List.mem_cons_self | refine List.mem_cons_of_mem _ ?_)) rfl
                have y4 := X.out.at_ (g := w.heap.size + 1) (i := 4) (v := .int .i64 f4_0) (cs := [.int .i64 f0, .string f1, .slice B2 m2 k2, .int .i64 f3, .int .i64 f4_0, .int .i64 f4_1, .int .i64 f4_2]) (by repeat (first | exact List.mem_cons_self | refine List.mem_cons_of_mem _ ?_)) rfl
                have x5 := X.out.at_ (g := w.heap.size) (i := 5) (v := .int .i64 f4_1) (cs := [.int .i64 f0, .string f1, .slice A2 n2 c2, .int .i64 f3, .int .i64 f4_0, .int .i64 f4_1, .int .i64 f4_2]) (by repeat (first | exact List.mem_cons_self | refine List.mem_cons_of_mem _ ?_)) rfl
                have y5 := X.out.at_ (g := w.heap.size + 1) (i := 5) (v := .int .i64 f4_1) (cs := [.int .i64 f0, .string f1, .slice B2 m2 k2, .int .i64 f3, .int .i64 f4_0, .int .i64 f4_1, .int .i64 f4_2]) (by repeat (first | exact List.mem_cons_self | refine List.mem_cons_of_mem _ ?_)) rfl
                have x6 := X.out.at_ (g := w.heap.size) (i := 6) (v := .int .i64 f4_2) (cs := [.int .i64 f0, .string f1, .slice A2 n2 c2, .int .i64 f3, .int .i64 f4_0, .int .i64 f4_1, .int .i64 f4_2]) (by repeat (first | exact List.mem_cons_self | refine List.mem_cons_of_mem _ ?_)) rfl
                have y6 := X.out.at_ (g := w.heap.size + 1) (i := 6) (v := .int .i64 f4_2) (cs := [.int .i64 f0, .string f1, .slice B2 m2 k2, .int .i64 f3, .int .i64 f4_0, .int .i64 f4_1, .int .i64 f4_2]) (by repeat (first | exact List.mem_cons_self | refine List.mem_cons_of_mem _ ?_)) rfl
                go_wp2_with fail
                go_ret
                exact GivesBool.of HN.out X.out.1
              · have HN : Hid (false = eq1 (.r [.i f0, .s f1, .l L2, .i f3, .r [.i f4_0, .i f4_1, .i f4_2]]) (.r [.i f0, .s f1, .l L2, .i f3, .r [.i f4_0, .i f4_1, .i g4_2]])) := Lib.hid (eq1_no (by simp [e4_2])).symm
                have hb4_2 : (f4_2 == g4_2) = false := by simpa using e4_2
                go_enter Try.func77, Try.ntmps77
                go_wp2_with fail
                refine (implEqVD (HL2.out.below X.out.1) (HR2.out.below X.out.1) HT2.out HU2.out hn2).mono ?_
                rintro e w2 ⟨rfl, hb⟩
                rw [eqD_yes]
                replace X := Lib.hid (X.out.below hb)
                clear hb
                have x0 := X.out.at_ (g := w.heap.size) (i := 0) (v := .int .i64 f0) (cs := [.int .i64 f0, .string f1, .slice A2 n2 c2, .int .i64 f3, .int .i64 f4_0, .int .i64 f4_1, .int .i64 f4_2]) (by repeat (first | exact List.mem_cons_self | refine List.mem_cons_of_mem _ ?_)) rfl
                have y0 := X.out.at_ (g := w.heap.size + 1) (i := 0) (v := .int .i64 f0) (cs := [.int .i64 f0, .string f1, .slice B2 m2 k2, .int .i64 f3, .int .i64 f4_0, .int .i64 f4_1, .int .i64 g4_2]) (by repeat (first | exact List.mem_cons_self | refine List.mem_cons_of_mem _ ?_)) rfl
                have x1 := X.out.at_ (g := w.heap.size) (i := 1) (v := .string f1) (cs := [.int .i64 f0, .string f1, .slice A2 n2 c2, .int .i64 f3, .int .i64 f4_0, .int .i64 f4_1, .int .i64 f4_2]) (by repeat (first | exact List.mem_cons_self | refine List.mem_cons_of_mem _ ?_)) rfl
                have y1 := X.out.at_ (g := w.heap.size + 1) (i := 1) (v := .string f1) (cs := [.int .i64 f0, .string f1, .slice B2 m2 k2, .int .i64 f3, .int .i64 f4_0, .int .i64 f4_1, .int .i64 g4_2]) (by repeat (first | exact List.mem_cons_self | refine List.mem_cons_of_mem _ ?_)) rfl
                have x2 := X.out.at_ (g := w.heap.size) (i := 2) (v := .slice A2 n2 c2) (cs := [.int .i64 f0, .string f1, .slice A2 n2 c2, .int .i64 f3, .int .i64 f4_0, .int .i64 f4_1, .int .i64 f4_2]) (by repeat (first | exact List.mem_cons_self | refine List.mem_cons_of_mem _ ?_)) rfl
                have y2 := X.out.at_ (g := w.heap.size + 1) (i := 2) (v := .slice B2 m2 k2) (cs := [.int .i64 f0, .string f1, .slice B2 m2 k2, .int .i64 f3, .int .i64 f4_0, .int .i64 f4_1, .int .i64 g4_2]) (by repeat (first | exact List.mem_cons_self | refine List.mem_cons_of_mem _ ?_)) rfl
                have x3 := X.out.at_ (g := w.heap.size) (i := 3) (v := .int .i64 f3) (cs := [.int .i64 f0, .string f1, .slice A2 n2 c2, .int .i64 f3, .int .i64 f4_0, .int .i64 f4_1, .int .i64 f4_2]) (by repeat (first | exact List.mem_cons_self | refine List.mem_cons_of_mem _ ?_)) rfl
                have y3 := X.out.at_ (g := w.heap.size + 1) (i := 3) (v := .int .i64 f3) (cs := [.int .i64 f0, .string f1, .slice B2 m2 k2, .int .i64 f3, .int .i64 f4_0, .int .i64 f4_1, .int .i64 g4_2]) (by repeat (first | exact List.mem_cons_self | refine List.mem_cons_of_mem _ ?_)) rfl
                have x4 := X.out.at_ (g := w.heap.size) (i := 4) (v := .int .i64 f4_0) (cs := [.int .i64 f0, .string f1, .slice A2 n2 c2, .int .i64 f3, .int .i64 f4_0, .int .i64 f4_1, .int .i64 f4_2]) (by repeat (first | exact List.mem_cons_self | refine List.mem_cons_of_mem _ ?_)) rfl
                have y4 := X.out.at_ (g := w.heap.size + 1) (i := 4) (v := .int .i64 f4_0) (cs := [.int .i64 f0, .string f1, .slice B2 m2 k2, .int .i64 f3, .int .i64 f4_0, .int .i64 f4_1, .int .i64 g4_2]) (by repeat (first | exact List.mem_cons_self | refine List.mem_cons_of_mem _ ?_)) rfl
                have x5 := X.out.at_ (g := w.heap.size) (i := 5) (v := .int .i64 f4_1) (cs := [.int .i64 f0, .string f1, .slice A2 n2 c2, .int .i64 f3, .int .i64 f4_0, .int .i64 f4_1, .int .i64 f4_2]) (by repeat (first | exact List.mem_cons_self | refine List.mem_cons_of_mem _ ?_)) rfl
                have y5 := X.out.at_ (g := w.heap.size + 1) (i := 5) (v := .int .i64 f4_1) (cs := [.int .i64 f0, .string f1, .slice B2 m2 k2, .int .i64 f3, .int .i64 f4_0, .int .i64 f4_1, .int .i64 g4_2]) (by repeat (first | exact List.mem_cons_self | refine List.mem_cons_of_mem _ ?_)) rfl
                have x6 := X.out.at_ (g := w.heap.size) (i := 6) (v := .int .i64 f4_2) (cs := [.int .i64 f0, .string f1, .slice A2 n2 c2, .int .i64 f3, .int .i64 f4_0, .int .i64 f4_1, .int .i64 f4_2]) (by repeat (first | exact List.mem_cons_self | refine List.mem_cons_of_mem _ ?_)) rfl
                have y6 := X.out.at_ (g := w.heap.size + 1) (i := 6) (v := .int .i64 g4_2) (cs := [.int .i64 f0, .string f1, .slice B2 m2 k2, .int .i64 f3, .int .i64 f4_0, .int .i64 f4_1, .int .i64 g4_2]) (by repeat (first | exact List.mem_cons_self | refine List.mem_cons_of_mem _ ?_)) rfl
                go_wp2_with fail
                go_ret
                exact GivesBool.of HN.out X.out.1
            · have HN : Hid (false = eq1 (.r [.i f0, .s f1, .l L2, .i f3, .r [.i f4_0, .i f4_1, .i f4_2]]) (.r [.i f0, .s f1, .l L2, .i f3, .r [.i f4_0, .i g4_1, .i g4_2]])) := Lib.hid (eq1_no (by simp [e4_1])).symm
              have hb4_1 : (f4_1 == g4_1) = false := by simpa using e4_1
              go_enter Try.func77, Try.ntmps77
              go_wp2_with fail
              refine (implEqVD (HL2.out.below X.out.1) (HR2.out.below X.out.1) HT2.out HU2.out hn2).mono ?_
              rintro e w2 ⟨rfl, hb⟩
              rw [eqD_yes]
              replace X := Lib.hid (X.out.below hb)
              clear hb
              have x0 := X.out.at_ (g := w.heap.size) (i := 0) (v := .int .i64 f0) (cs := [.int .i64 f0, .string f1, .slice A2 n2 c2, .int .i64 f3, .int .i64 f4_0, .int .i64 f4_1, .int .i64 f4_2]) (by repeat (first | exact List.mem_cons_self | refine List.mem_cons_of_mem _ ?_)) rfl
              have y0 := X.out.at_ (g := w.heap.size + 1) (i := 0) (v := .int .i64 f0) (cs := [.int .i64 f0, .string f1, .slice B2 m2 k2, .int .i64 f3, .int .i64 f4_0, .int .i64 g4_1, .int .i64 g4_2]) (by repeat (first | exact List.mem_cons_self | refine List.mem_cons_of_mem _ ?_)) rfl
              have x1 := X.out.at_ (g := w.heap.size) (i := 1) (v := .string f1) (cs := [.int .i64 f0, .string f1, .slice A2 n2 c2, .int .i64 f3, .int .i64 f4_0, .int .i64 f4_1, .int .i64 f4_2]) (by repeat (first | exact List.mem_cons_self | refine List.mem_cons_of_mem _ ?_)) rfl
              have y1 := X.out.at_ (g := w.heap.size + 1) (i := 1) (v := .string f1) (cs := [.int .i64 f0, .string f1, .slice B2 m2 k2, .int .i64 f3, .int .i64 f4_0, .int .i64 g4_1, .int .i64 g4_2]) (by repeat (first | exact List.mem_cons_self | refine List.mem_cons_of_mem _ ?_)) rfl
              have x2 := X.out.at_ (g := w.heap.size) (i := 2) (v := .slice A2 n2 c2) (cs := [.int .i64 f0, .string f1, .slice A2 n2 c2, .int .i64 f3, .int .i64 f4_0, .int .i64 f4_1, .int .i64 f4_2]) (by repeat (first | exact List.mem_cons_self | refine List.mem_cons_of_mem _ ?_)) rfl
              have y2 := X.out.at_ (g := w.heap.size + 1) (i := 2) (v := .slice B2 m2 k2) (cs := [.int .i64 f0, .string f1, .slice B2 m2 k2, .int .i64 f3, .int .i64 f4_0, .int .i64 g4_1, .int .i64 g4_2]) (by repeat (first | exact List.mem_cons_self | refine List.mem_cons_of_mem _ ?_)) rfl
              have x3 := X.out.at_ (g := w.heap.size) (i := 3) (v := .int .i64 f3) (cs := [.int .i64 f0, .string f1, .slice A2 n2 c2, .int .i64 f3, .int .i64 f4_0, .int .i64 f4_1, .int .i64 f4_2]) (by repeat (first | exact List.mem_cons_self | refine List.mem_cons_of_mem _ ?_)) rfl
              have y3 := X.out.at_ (g := w.heap.size + 1) (i := 3) (v := .int .i64 f3) (cs := [.int .i64 f0, .string f1, .slice B2 m2 k2, .int .i64 f3, .int .i64 f4_0, .int .i64 g4_1, .int .i64 g4_2]) (by repeat (first | exact List.mem_cons_self | refine List.mem_cons_of_mem _ ?_)) rfl
              have x4 := X.out.at_ (g := w.heap.size) (i := 4) (v := .int .i64 f4_0) (cs := [.int .i64 f0, .string f1, .slice A2 n2 c2, .int .i64 f3, .int .i64 f4_0, .int .i64 f4_1, .int .i64 f4_2]) (by repeat (first | exact List.mem_cons_self | refine List.mem_cons_of_mem _ ?_)) rfl
              have y4 := X.out.at_ (g := w.heap.size + 1) (i := 4) (v := .int .i64 f4_0) (cs := [.int .i64 f0, .string f1, .slice B2 m2 k2, .int .i64 f3, .int .i64 f4_0, .int .i64 g4_1, .int .i64 g4_2]) (by repeat (first | exact List.mem_cons_self | refine List.mem_cons_of_mem _ ?_)) rfl
              have x5 := X.out.at_ (g := w.heap.size) (i := 5) (v := .int .i64 f4_1) (cs := [.int .i64 f0, .string f1, .slice A2 n2 c2, .int .i64 f3, .int .i64 f4_0, .int .i64 f4_1, .int .i64 f4_2]) (by repeat (first | exact List.mem_cons_self | refine List.mem_cons_of_mem _ ?_)) rfl
              have y5 := X.out.at_ (g := w.heap.size + 1) (i := 5) (v := .int .i64 g4_1) (cs := [.int .i64 f0, .string f1, .slice B2 m2 k2, .int .i64 f3, .int .i64 f4_0, .int .i64 g4_1, .int .i64 g4_2]) (by repeat (first | exact List.mem_cons_self | refine List.mem_cons_of_mem _ ?_)) rfl
              have x6 := X.out.at_ (g := w.heap.size) (i := 6) (v := .int .i64 f4_2) (cs := [.int .i64 f0, .string f1, .slice A2 n2 c2, .int .i64 f3, .int .i64 f4_0, .int .i64 f4_1, .int .i64 f4_2]) (by repeat (first | exact List.mem_cons_self | refine List.mem_cons_of_mem _ ?_)) rfl
              have y6 := X.out.at_ (g := w.heap.size + 1) (i := 6) (v := .int .i64 g4_2) (cs := [.int .i64 f0, .string f1, .slice B2 m2 k2, .int .i64 f3, .int .i64 f4_0, .int .i64 g4_1, .int .i64 g4_2]) (by repeat (first | exact List.mem_cons_self | refine List.mem_cons_of_mem _ ?_)) rfl
              go_wp2_with fail
              go_ret
              exact GivesBool.of HN.out X.out.1
          · have HN : Hid (false = eq1 (.r [.i f0, .s f1, .l L2, .i f3, .r [.i f4_0, .i f4_1, .i f4_2]]) (.r [.i f0, .s f1, .l L2, .i f3, .r [.i g4_0, .i g4_1, .i g4_2]])) := Lib.hid (eq1_no (by simp [e4_0])).symm
            have hb4_0 : (f4_0 == g4_0) = false := by simpa using e4_0
            go_enter Try.func77, Try.ntmps77
            go_wp2_with fail
            refine (implEqVD (HL2.out.below X.out.1) (HR2.out.below X.out.1) HT2.out HU2.out hn2).mono ?_
            rintro e w2 ⟨rfl, hb⟩
            rw [eqD_yes]
            replace X := Lib.hid (X.out.below hb)
            clear hb
            have x0 := X.out.at_ (g := w.heap.size) (i := 0) (v := .int .i64 f0) (cs := [.int .i64 f0, .string f1, .slice A2 n2 c2, .int .i64 f3, .int .i64 f4_0, .int .i64 f4_1, .int .i64 f4_2]) (by repeat (first | exact List.mem_cons_self | refine List.mem_cons_of_mem _ ?_)) rfl
            have y0 := X.out.at_ (g := w.heap.size + 1) (i := 0) (v := .int .i64 f0) (cs := [.int .i64 f0, .string f1, .slice B2 m2 k2, .int .i64 f3, .int .i64 g4_0, .int .i64 g4_1, .int .i64 g4_2]) (by repeat (first | exact List.mem_cons_self | refine List.mem_cons_of_mem _ ?_)) rfl
            have x1 := X.out.at_ (g := w.heap.size) (i := 1) (v := .string f1) (cs := [.int .i64 f0, .string f1, .slice A2 n2 c2, .int .i64 f3, .int .i64 f4_0, .int .i64 f4_1, .int .i64 f4_2]) (by repeat (first | exact List.mem_cons_self | refine List.mem_cons_of_mem _ ?_)) rfl
            have y1 := X.out.at_ (g := w.heap.size + 1) (i := 1) (v := .string f1) (cs := [.int .i64 f0, .string f1, .slice B2 m2 k2, .int .i64 f3, .int .i64 g4_0, .int .i64 g4_1, .int .i64 g4_2]) (by repeat (first | exact List.mem_cons_self | refine List.mem_cons_of_mem _ ?_)) rfl
            have x2 := X.out.at_ (g := w.heap.size) (i := 2) (v := .slice A2 n2 c2) (cs := [.int .i64 f0, .string f1, .slice A2 n2 c2, .int .i64 f3, .int .i64 f4_0, .int .i64 f4_1, .int .i64 f4_2]) (by repeat (first | exact List.mem_cons_self | refine List.mem_cons_of_mem _ ?_)) rfl
            have y2 := X.out.at_ (g := w.heap.size + 1) (i := 2) (v := .slice B2 m2 k2) (cs := [.int .i64 f0, .string f1, .slice B2 m2 k2, .int .i64 f3, .int .i64 g4_0, .int .i64 g4_1, .int .i64 g4_2]) (by repeat (first | exact List.mem_cons_self | refine List.mem_cons_of_mem _ ?_)) rfl
            have x3 := X.out.at_ (g := w.heap.size) (i := 3) (v := .int .i64 f3) (cs := [.int .i64 f0, .string f1, .slice A2 n2 c2, .int .i64 f3, .int .i64 f4_0, .int .i64 f4_1, .int .i64 f4_2]) (by repeat (first | exact List.mem_cons_self | refine List.mem_cons_of_mem _ ?_)) rfl
            have y3 := X.out.at_ (g := w.heap.size + 1) (i := 3) (v := .int .i64 f3) (cs := [.int .i64 f0, .string f1, .slice B2 m2 k2, .int .i64 f3, .int .i64 g4_0, .int .i64 g4_1, .int .i64 g4_2]) (by repeat (first | exact List.mem_cons_self | refine List.mem_cons_of_mem _ ?_)) rfl
            have x4 := X.out.at_ (g := w.heap.size) (i := 4) (v := .int .i64 f4_0) (cs := [.int .i64 f0, .string f1, .slice A2 n2 c2, .int .i64 f3, .int .i64 f4_0, .int .i64 f4_1, .int .i64 f4_2]) (by repeat (first | exact List.mem_cons_self | refine List.mem_cons_of_mem _ ?_)) rfl
            have y4 := X.out.at_ (g := w.heap.size + 1) (i := 4) (v := .int .i64 g4_0) (cs := [.int .i64 f0, .string f1, .slice B2 m2 k2, .int .i64 f3, .int .i64 g4_0, .int .i64 g4_1, .int .i64 g4_2]) (by repeat (first | exact List.mem_cons_self | refine List.mem_cons_of_mem _ ?_)) rfl
            have x5 := X.out.at_ (g := w.heap.size) (i := 5) (v := .int .i64 f4_1) (cs := [.int .i64 f0, .string f1, .slice A2 n2 c2, .int .i64 f3, .int .i64 f4_0, .int .i64 f4_1, .int .i64 f4_2]) (by repeat (first | exact List.mem_cons_self | refine List.mem_cons_of_mem _ ?_)) rfl
            have y5 := X.out.at_ (g := w.heap.size + 1) (i := 5) (v := .int .i64 g4_1) (cs := [.int .i64 f0, .string f1, .slice B2 m2 k2, .int .i64 f3, .int .i64 g4_0, .int .i64 g4_1, .int .i64 g4_2]) (by repeat (first | exact List.mem_cons_self | refine List.mem_cons_of_mem _ ?_)) rfl
            have x6 := X.out.at_ (g := w.heap.size) (i := 6) (v := .int .i64 f4_2) (cs := [.int .i64 f0, .string f1, .slice A2 n2 c2, .int .i64 f3, .int .i64 f4_0, .int .i64 f4_1, .int .i64 f4_2]) (by repeat (first | exact List.mem_cons_self | refine List.mem_cons_of_mem _ ?_)) rfl
            have y6 := X.out.at_ (g := w.heap.size + 1) (i := 6) (v := .int .i64 g4_2) (cs := [.int .i64 f0, .string f1, .slice B2 m2 k2, .int .i64 f3, .int .i64 g4_0, .int .i64 g4_1, .int .i64 g4_2]) (by repeat (first | exact List.mem_cons_self | refine List.mem_cons_of_mem _ ?_)) rfl
            go_wp2_with fail
            go_ret
            exact GivesBool.of HN.out X.out.1
        · have HN : Hid (false = eq1 (.r [.i f0, .s f1, .l L2, .i f3, .r [.i f4_0, .i f4_1, .i f4_2]]) (.r [.i f0, .s f1, .l L2, .i g3, .r [.i g4_0, .i g4_1, .i g4_2]])) := Lib.hid (eq1_no (by simp [e3])).symm
          have hb3 : (f3 == g3) = false := by simpa using e3
          go_enter Try.func77, Try.ntmps77
          go_wp2_with fail
          refine (implEqVD (HL2.out.below X.out.1) (HR2.out.below X.out.1) HT2.out HU2.out hn2).mono ?_
          rintro e w2 ⟨rfl, hb⟩
          rw [eqD_yes]
          replace X := Lib.hid (X.out.below hb)
          clear hb
          have x0 := X.out.at_ (g := w.heap.size) (i := 0) (v := .int .i64 f0) (cs := [.int .i64 f0, .string f1, .slice A2 n2 c2, .int .i64 f3, .int .i64 f4_0, .int .i64 f4_1, .int .i64 f4_2]) (by repeat (first | exact List.mem_cons_self | refine List.mem_cons_of_mem _ ?_)) rfl
          have y0 := X.out.at_ (g := w.heap.size + 1) (i := 0) (v := .int .i64 f0) (cs := [.int .i64 f0, .string f1, .slice B2 m2 k2, .int .i64 g3, .int .i64 g4_0, .int .i64 g4_1, .int .i64 g4_2]) (by repeat (first | exact List.mem_cons_self | refine List.mem_cons_of_mem _ ?_)) rfl
          have x1 := X.out.at_ (g := w.heap.size) (i := 1) (v := .string f1) (cs := [.int .i64 f0, .string f1, .slice A2 n2 c2, .int .i64 f3, .int .i64 f4_0, .int .i64 f4_1, .int .i64 f4_2]) (by repeat (first | exact List.mem_cons_self | refine List.mem_cons_of_mem _ ?_)) rfl
          have y1 := X.out.at_ (g := w.heap.size + 1) (i := 1) (v := .string f1) (cs := [.int .i64 f0, .string f1, .slice B2 m2 k2, .int .i64 g3, .int .i64 g4_0, .int .i64 g4_1, .int .i64 g4_2]) (by repeat (first | exact List.mem_cons_self | refine List.mem_cons_of_mem _ ?_)) rfl
          have x2 := X.out.at_ (g := w.heap.size) (i := 2) (v := .slice A2 n2 c2) (cs := [.int .i64 f0, .string f1, .slice A2 n2 c2, .int .i64 f3, .int .i64 f4_0, .int .i64 f4_1, .int .i64 f4_2]) (by repeat (first | exact List.mem_cons_self | refine List.mem_cons_of_mem _ ?_)) rfl
          have y2 := X.out.at_ (g := w.heap.size + 1) (i := 2) (v := .slice B2 m2 k2) (cs := [.int .i64 f0, .string f1, .slice B2 m2 k2, .int .i64 g3, .int .i64 g4_0, .int .i64 g4_1, .int .i64 g4_2]) (by repeat (first | exact List.mem_cons_self | refine List.mem_cons_of_mem _ ?_)) rfl
          have x3 := X.out.at_ (g := w.heap.size) (i := 3) (v := .int .i64 f3) (cs := [.int .i64 f0, .string f1, .slice A2 n2 c2, .int .i64 f3, .int .i64 f4_0, .int .i64 f4_1, .int .i64 f4_2]) (by repeat (first | exact List.mem_cons_self | refine List.mem_cons_of_mem _ ?_)) rfl
          have y3 := X.out.at_ (g := w.heap.size + 1) (i := 3) (v := .int .i64 g3) (cs := [.int .i64 f0, .string f1, .slice B2 m2 k2, .int .i64 g3, .int .i64 g4_0, .int .i64 g4_1, .int .i64 g4_2]) (by repeat (first | exact List.mem_cons_self | refine List.mem_cons_of_mem _ ?_)) rfl
          have x4 := X.out.at_ (g := w.heap.size) (i := 4) (v := .int .i64 f4_0) (cs := [.int .i64 f0, .string f1, .slice A2 n2 c2, .int .i64 f3, .int .i64 f4_0, .int .i64 f4_1, .int .i64 f4_2]) (by repeat (first | exact List.mem_cons_self | refine List.mem_cons_of_mem _ ?_)) rfl
          have y4 := X.out.at_ (g := w.heap.size + 1) (i := 4) (v := .int .i64 g4_0) (cs := [.int .i64 f0, .string f1, .slice B2 m2 k2, .int .i64 g3, .int .i64 g4_0, .int .i64 g4_1, .int .i64 g4_2]) (by repeat (first | exact List.mem_cons_self | refine List.mem_cons_of_mem _ ?_)) rfl
          have x5 := X.out.at_ (g := w.heap.size) (i := 5) (v := .int .i64 f4_1) (cs := [.int .i64 f0, .string f1, .slice A2 n2 c2, .int .i64 f3, .int .i64 f4_0, .int .i64 f4_1, .int .i64 f4_2]) (by repeat (first | exact List.mem_cons_self | refine List.mem_cons_of_mem _ ?_)) rfl
          have y5 := X.out.at_ (g := w.heap.size + 1) (i := 5) (v := .int .i64 g4_1) (cs := [.int .i64 f0, .string f1, .slice B2 m2 k2, .int .i64 g3, .int .i64 g4_0, .int .i64 g4_1, .int .i64 g4_2]) (by repeat (first | exact List.mem_cons_self | refine List.mem_cons_of_mem _ ?_)) rfl
          have x6 := X.out.at_ (g := w.heap.size) (i := 6) (v := .int .i64 f4_2) (cs := [.int .i64 f0, .string f1, .slice A2 n2 c2, .int .i64 f3, .int .i64 f4_0, .int .i64 f4_1, .int .i64 f4_2]) (by repeat (first | exact List.mem_cons_self | refine List.mem_cons_of_mem _ ?_)) rfl
          have y6 := X.out.at_ (g := w.heap.size + 1) (i := 6) (v := .int .i64 g4_2) (cs := [.int .i64 f0, .string f1, .slice B2 m2 k2, .int .i64 g3, .int .i64 g4_0, .int .i64 g4_1, .int .i64 g4_2]) (by repeat (first | exact List.mem_cons_self | refine List.mem_cons_of_mem _ ?_)) rfl
          go_wp2_with fail
          go_ret
          exact GivesBool.of HN.out X.out.1
      · have HN : Hid (false = eq1 (.r [.i f0, .s f1, .l L2, .i f3, .r [.i f4_0, .i f4_1, .i f4_2]]) (.r [.i f0, .s f1, .l M2, .i g3, .r [.i g4_0, .i g4_1, .i g4_2]])) := Lib.hid (eq1_no (by simp [e2])).symm
        have HE2 := Lib.hid (eqD_no e2)
        clear e2
        go_enter Try.func77, Try.ntmps77
        go_wp2_with fail
        refine (implEqVD (HL2.out.below X.out.1) (HR2.out.below X.out.1) HT2.out HU2.out hn2).mono ?_
        rintro e w2 ⟨rfl, hb⟩
        rw [HE2.out]
        replace X := Lib.hid (X.out.below hb)
        clear hb
        have x0 := X.out.at_ (g := w.heap.size) (i := 0) (v := .int .i64 f0) (cs := [.int .i64 f0, .string f1, .slice A2 n2 c2, .int .i64 f3, .int .i64 f4_0, .int .i64 f4_1, .int .i64 f4_2]) (by repeat (first | exact List.mem_cons_self | refine List.mem_cons_of_mem _ ?_)) rfl
        have y0 := X.out.at_ (g := w.heap.size + 1) (i := 0) (v := .int .i64 f0) (cs := [.int .i64 f0, .string f1, .slice B2 m2 k2, .int .i64 g3, .int .i64 g4_0, .int .i64 g4_1, .int .i64 g4_2]) (by repeat (first | exact List.mem_cons_self | refine List.mem_cons_of_mem _ ?_)) rfl
        have x1 := X.out.at_ (g := w.heap.size) (i := 1) (v := .string f1) (cs := [.int .i64 f0, .string f1, .slice A2 n2 c2, .int .i64 f3, .int .i64 f4_0, .int .i64 f4_1, .int .i64 f4_2]) (by repeat (first | exact List.mem_cons_self | refine List.mem_cons_of_mem _ ?_)) rfl
        have y1 := X.out.at_ (g := w.heap.size + 1) (i := 1) (v := .string f1) (cs := [.int .i64 f0, .string f1, .slice B2 m2 k2, .int .i64 g3, .int .i64 g4_0, .int .i64 g4_1, .int .i64 g4_2]) (by repeat (first | exact List.mem_cons_self | refine List.mem_cons_of_mem _ ?_)) rfl
        have x2 := X.out.at_ (g := w.heap.size) (i := 2) (v := .slice A2 n2 c2) (cs := [.int .i64 f0, .string f1, .slice A2 n2 c2, .int .i64 f3, .int .i64 f4_0, .int .i64 f4_1, .int .i64 f4_2]) (by repeat (first | exact List.mem_cons_self | refine List.mem_cons_of_mem _ ?_)) rfl
        have y2 := X.out.at_ (g := w.heap.size + 1) (i := 2) (v := .slice B2 m2 k2) (cs := [.int .i64 f0, .string f1, .slice B2 m2 k2, .int .i64 g3, .int .i64 g4_0, .int .i64 g4_1, .int .i64 g4_2]) (by repeat (first | exact List.mem_cons_self | refine List.mem_cons_of_mem _ ?_)) rfl
        have x3 := X.out.at_ (g := w.heap.size) (i := 3) (v := .int .i64 f3) (cs := [.int .i64 f0, .string f1, .slice A2 n2 c2, .int .i64 f3, .int .i64 f4_0, .int .i64 f4_1, .int .i64 f4_2]) (by repeat (first | exact List.mem_cons_self | refine List.mem_cons_of_mem _ ?_)) rfl
        have y3 := X.out.at_ (g := w.heap.size + 1) (i := 3) (v := .int .i64 g3) (cs := [.int .i64 f0, .string f1, .slice B2 m2 k2, .int .i64 g3, .int .i64 g4_0, .int .i64 g4_1, .int .i64 g4_2]) (by repeat (first | exact List.mem_cons_self | refine List.mem_cons_of_mem _ ?_)) rfl
        have x4 := X.out.at_ (g := w.heap.size) (i := 4) (v := .int .i64 f4_0) (cs := [.int .i64 f0, .string f1, .slice A2 n2 c2, .int .i64 f3, .int .i64 f4_0, .int .i64 f4_1, .int .i64 f4_2]) (by repeat (first | exact List.mem_cons_self | refine List.mem_cons_of_mem _ ?_)) rfl
        have y4 := X.out.at_ (g := w.heap.size + 1) (i := 4) (v := .int .i64 g4_0) (cs := [.int .i64 f0, .string f1, .slice B2 m2 k2, .int .i64 g3, .int .i64 g4_0, .int .i64 g4_1, .int .i64 g4_2]) (by repeat (first | exact List.mem_cons_self | refine List.mem_cons_of_mem _ ?_)) rfl
        have x5 := X.out.at_ (g := w.heap.size) (i := 5) (v := .int .i64 f4_1) (cs := [.int .i64 f0, .string f1, .slice A2 n2 c2, .int .i64 f3, .int .i64 f4_0, .int .i64 f4_1, .int .i64 f4_2]) (by repeat (first | exact List.mem_cons_self | refine List.mem_cons_of_mem _ ?_)) rfl
        have y5 := X.out.at_ (g := w.heap.size + 1) (i := 5) (v := .int .i64 g4_1) (cs := [.int .i64 f0, .string f1, .slice B2 m2 k2, .int .i64 g3, .int .i64 g4_0, .int .i64 g4_1, .int .i64 g4_2]) (by repeat (first | exact List.mem_cons_self | refine List.mem_cons_of_mem _ ?_)) rfl
        have x6 := X.out.at_ (g := w.heap.size) (i := 6) (v := .int .i64 f4_2) (cs := [.int .i64 f0, .string f1, .slice A2 n2 c2, .int .i64 f3, .int .i64 f4_0, .int .i64 f4_1, .int .i64 f4_2]) (by repeat (first | exact List.mem_cons_self | refine List.mem_cons_of_mem _ ?_)) rfl
        have y6 := X.out.at_ (g := w.heap.size + 1) (i := 6) (v := .int .i64 g4_2) (cs := [.int .i64 f0, .string f1, .slice B2 m2 k2, .int .i64 g3, .int .i64 g4_0, .int .i64 g4_1, .int .i64 g4_2]) (by repeat (first | exact List.mem_cons_self | refine List.mem_cons_of_mem _ ?_)) rfl
        go_wp2_with fail
        go_ret
        exact GivesBool.of HN.out X.out.1
    · have HN : Hid (false = eq1 (.r [.i f0, .s f1, .l L2, .i f3, .r [.i f4_0, .i f4_1, .i f4_2]]) (.r [.i f0, .s g1, .l M2, .i g3, .r [.i g4_0, .i g4_1, .i g4_2]])) := Lib.hid (eq1_no (by simp [e1])).symm
      have he1 := bytesNe e1
      have he2 := bytesNeb e1
      clear e1
      go_enter Try.func77, Try.ntmps77
      go_wp2_with fail
      go_ret
      exact GivesBool.of HN.out X.out.1
  · have HN : Hid (false = eq1 (.r [.i f0, .s f1, .l L2, .i f3, .r [.i f4_0, .i f4_1, .i f4_2]]) (.r [.i g0, .s g1, .l M2, .i g3, .r [.i g4_0, .i g4_1, .i g4_2]])) := Lib.hid (eq1_no (by simp [e0])).symm
    have hb0 : (f0 == g0) = false := by simpa using e0
    go_enter Try.func77, Try.ntmps77
    go_wp2_with fail
    go_ret
    exact GivesBool.of HN.out X.out.1
end Go.Proofs.Ytfgijebgnkikpaa
