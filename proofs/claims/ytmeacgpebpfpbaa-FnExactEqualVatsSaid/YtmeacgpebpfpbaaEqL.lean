/- Chapter 10: the program's EqualLinks. -/
import Derived.Test.YtmeacgpebpfpbaaCom
import Derived.Test.YtmeacgpebpfpbaaEqLA
import Derived.LoopTactic
import Derived.Lib.Hide
import Derived.Deep.QuietTactic
import Derived.BigQuiet
import Derived.Deep.RegionWith
import Derived.Handy
namespace Go.Proofs.Ytmeacgpebpfpbaa
open Go.RowKit
set_option linter.unusedVariables false
set_option linter.unusedSimpArgs false
set_option maxRecDepth 100000 in
set_option maxHeartbeats 4000000 in
theorem implEqLink (f0 : Int) (f1 : Bool) (L2 : List Dat) (A2 : Option Addr) (n2 c2 : Nat) (f3 : Int) (L4 : List Dat) (A4 : Option Addr) (n4 c4 : Nat) (f5 : Int) (L6 : List Dat) (A6 : Option Addr) (n6 c6 : Nat) (g0 : Int) (g1 : Bool) (M2 : List Dat) (B2 : Option Addr) (m2 k2 : Nat) (g3 : Int) (M4 : List Dat) (B4 : Option Addr) (m4 k4 : Nat) (g5 : Int) (M6 : List Dat) (B6 : Option Addr) (m6 k6 : Nat) (w : World) (hl2 : Lies w (.l L2) [.slice A2 n2 c2]) (hr2 : Lies w (.l M2) [.slice B2 m2 k2]) (ht2 : ∀ x ∈ L2, Has tyExport x) (hu2 : ∀ x ∈ M2, Has tyExport x) (hn2 : n2 ≤ 1099511627776) (hl4 : Lies w (.l L4) [.slice A4 n4 c4]) (hr4 : Lies w (.l M4) [.slice B4 m4 k4]) (ht4 : ∀ x ∈ L4, Has tyQuestion x) (hu4 : ∀ x ∈ M4, Has tyQuestion x) (hn4 : n4 ≤ 1099511627776) (hl6 : Lies w (.l L6) [.slice A6 n6 c6]) (hr6 : Lies w (.l M6) [.slice B6 m6 k6]) (ht6 : ∀ x ∈ L6, Has tyQuestion x) (hu6 : ∀ x ∈ M6, Has tyQuestion x) (hn6 : n6 ≤ 1099511627776) : Calls Try.prog 64 #[.agg #[.int .i64 f0, .bool f1, .slice A2 n2 c2, .int .i64 f3, .slice A4 n4 c4, .int .i64 f5, .slice A6 n6 c6], .agg #[.int .i64 g0, .bool g1, .slice B2 m2 k2, .int .i64 g3, .slice B4 m4 k4, .int .i64 g5, .slice B6 m6 k6]] w (GivesBool (eq1 (.r [.i f0, .b f1, .l L2, .i f3, .l L4, .i f5, .l L6]) (.r [.i g0, .b g1, .l M2, .i g3, .l M4, .i g5, .l M6])) w) := by
  have HL2 := Lib.hid hl2
  have HR2 := Lib.hid hr2
  have HT2 := Lib.hid ht2
  have HU2 := Lib.hid hu2
  clear hl2 hr2 ht2 hu2
  have HL4 := Lib.hid hl4
  have HR4 := Lib.hid hr4
  have HT4 := Lib.hid ht4
  have HU4 := Lib.hid hu4
  clear hl4 hr4 ht4 hu4
  have HL6 := Lib.hid hl6
  have HR6 := Lib.hid hr6
  have HT6 := Lib.hid ht6
  have HU6 := Lib.hid hu6
  clear hl6 hr6 ht6 hu6
  have X := ((Held.start w).push #[.int .i64 f0, .bool f1, .slice A2 n2 c2, .int .i64 f3, .slice A4 n4 c4, .int .i64 f5, .slice A6 n6 c6] 97).push #[.int .i64 g0, .bool g1, .slice B2 m2 k2, .int .i64 g3, .slice B4 m4 k4, .int .i64 g5, .slice B6 m6 k6] 97
  simp only [World.size_alloc] at X
  replace X := Lib.hid X
  by_cases e0 : f0 = g0
  · subst e0
    by_cases e1 : f1 = g1
    · subst e1
      by_cases e2 : L2 = M2
      · subst e2
        by_cases e3 : f3 = g3
        · subst e3
          by_cases e4 : L4 = M4
          · subst e4
            by_cases e5 : f5 = g5
            · subst e5
              by_cases e6 : L6 = M6
              · subst e6
                have HN := Lib.hid (eq1_yes (.r [.i f0, .b f1, .l L2, .i f3, .l L4, .i f5, .l L6])).symm
                go_enter Try.func64, Try.ntmps64
                go_wp2_with fail
                refine (slEqX _ _ A2 B2 n2 m2 c2 k2 _ (HL2.out.below X.out.1) (HR2.out.below X.out.1) HT2.out HU2.out hn2).mono ?_
                rintro e w2 ⟨rfl, hb⟩
                rw [eqD_yes]
                replace X := Lib.hid (X.out.below hb)
                clear hb
                obtain ⟨x0, x1, x2, x3, x4, x5, x6⟩ := (X.out.box (g := w.heap.size) (cs := [.int .i64 f0, .bool f1, .slice A2 n2 c2, .int .i64 f3, .slice A4 n4 c4, .int .i64 f5, .slice A6 n6 c6]) (by repeat (first | exact List.mem_cons_self | refine List.mem_cons_of_mem _ ?_))).c7
                obtain ⟨y0, y1, y2, y3, y4, y5, y6⟩ := (X.out.box (g := w.heap.size + 1) (cs := [.int .i64 f0, .bool f1, .slice B2 m2 k2, .int .i64 f3, .slice B4 m4 k4, .int .i64 f5, .slice B6 m6 k6]) (by repeat (first | exact List.mem_cons_self | refine List.mem_cons_of_mem _ ?_))).c7
                go_wp2_with fail
                refine (slEqQ _ _ A4 B4 n4 m4 c4 k4 _ (HL4.out.below X.out.1) (HR4.out.below X.out.1) HT4.out HU4.out hn4).mono ?_
                rintro e w4 ⟨rfl, hb⟩
                clear x0 y0 x1 y1 x2 y2 x3 y3 x4 y4 x5 y5 x6 y6
                rw [eqD_yes]
                replace X := Lib.hid (X.out.below hb)
                clear hb
                obtain ⟨x0, x1, x2, x3, x4, x5, x6⟩ := (X.out.box (g := w.heap.size) (cs := [.int .i64 f0, .bool f1, .slice A2 n2 c2, .int .i64 f3, .slice A4 n4 c4, .int .i64 f5, .slice A6 n6 c6]) (by repeat (first | exact List.mem_cons_self | refine List.mem_cons_of_mem _ ?_))).c7
                obtain ⟨y0, y1, y2, y3, y4, y5, y6⟩ := (X.out.box (g := w.heap.size + 1) (cs := [.int .i64 f0, .bool f1, .slice B2 m2 k2, .int .i64 f3, .slice B4 m4 k4, .int .i64 f5, .slice B6 m6 k6]) (by repeat (first | exact List.mem_cons_self | refine List.mem_cons_of_mem _ ?_))).c7
                go_wp2_with fail
                refine (slEqQ _ _ A6 B6 n6 m6 c6 k6 _ (HL6.out.below X.out.1) (HR6.out.below X.out.1) HT6.out HU6.out hn6).mono ?_
                rintro e w6 ⟨rfl, hb⟩
                clear x0 y0 x1 y1 x2 y2 x3 y3 x4 y4 x5 y5 x6 y6
                rw [eqD_yes]
                replace X := Lib.hid (X.out.below hb)
                clear hb
                obtain ⟨x0, x1, x2, x3, x4, x5, x6⟩ := (X.out.box (g := w.heap.size) (cs := [.int .i64 f0, .bool f1, .slice A2 n2 c2, .int .i64 f3, .slice A4 n4 c4, .int .i64 f5, .slice A6 n6 c6]) (by repeat (first | exact List.mem_cons_self | refine List.mem_cons_of_mem _ ?_))).c7
                obtain ⟨y0, y1, y2, y3, y4, y5, y6⟩ := (X.out.box (g := w.heap.size + 1) (cs := [.int .i64 f0, .bool f1, .slice B2 m2 k2, .int .i64 f3, .slice B4 m4 k4, .int .i64 f5, .slice B6 m6 k6]) (by repeat (first | exact List.mem_cons_self | refine List.mem_cons_of_mem _ ?_))).c7
                go_wp2_with fail
                go_ret
                exact GivesBool.of HN.out X.out.1
              · have HN : Hid (false = eq1 (.r [.i f0, .b f1, .l L2, .i f3, .l L4, .i f5, .l L6]) (.r [.i f0, .b f1, .l L2, .i f3, .l L4, .i f5, .l M6])) := Lib.hid (eq1_no (by simp [e6])).symm
                have HE6 := Lib.hid (eqD_no e6)
                clear e6
                go_enter Try.func64, Try.ntmps64
                go_wp2_with fail
                refine (slEqX _ _ A2 B2 n2 m2 c2 k2 _ (HL2.out.below X.out.1) (HR2.out.below X.out.1) HT2.out HU2.out hn2).mono ?_
                rintro e w2 ⟨rfl, hb⟩
                rw [eqD_yes]
                replace X := Lib.hid (X.out.below hb)
                clear hb
                obtain ⟨x0, x1, x2, x3, x4, x5, x6⟩ := (X.out.box (g := w.heap.size) (cs := [.int .i64 f0, .bool f1, .slice A2 n2 c2, .int .i64 f3, .slice A4 n4 c4, .int .i64 f5, .slice A6 n6 c6]) (by repeat (first | exact List.mem_cons_self | refine List.mem_cons_of_mem _ ?_))).c7
                obtain ⟨y0, y1, y2, y3, y4, y5, y6⟩ := (X.out.box (g := w.heap.size + 1) (cs := [.int .i64 f0, .bool f1, .slice B2 m2 k2, .int .i64 f3, .slice B4 m4 k4, .int .i64 f5, .slice B6 m6 k6]) (by repeat (first | exact List.mem_cons_self | refine List.mem_cons_of_mem _ ?_))).c7
                go_wp2_with fail
                refine (slEqQ _ _ A4 B4 n4 m4 c4 k4 _ (HL4.out.below X.out.1) (HR4.out.below X.out.1) HT4.out HU4.out hn4).mono ?_
                rintro e w4 ⟨rfl, hb⟩
                clear x0 y0 x1 y1 x2 y2 x3 y3 x4 y4 x5 y5 x6 y6
                rw [eqD_yes]
                replace X := Lib.hid (X.out.below hb)
                clear hb
                obtain ⟨x0, x1, x2, x3, x4, x5, x6⟩ := (X.out.box (g := w.heap.size) (cs := [.int .i64 f0, .bool f1, .slice A2 n2 c2, .int .i64 f3, .slice A4 n4 c4, .int .i64 f5, .slice A6 n6 c6]) (by repeat (first | exact List.mem_cons_self | refine List.mem_cons_of_mem _ ?_))).c7
                obtain ⟨y0, y1, y2, y3, y4, y5, y6⟩ := (X.out.box (g := w.heap.size + 1) (cs := [.int .i64 f0, .bool f1, .slice B2 m2 k2, .int .i64 f3, .slice B4 m4 k4, .int .i64 f5, .slice B6 m6 k6]) (by repeat (first | exact List.mem_cons_self | refine List.mem_cons_of_mem _ ?_))).c7
                go_wp2_with fail
                refine (slEqQ _ _ A6 B6 n6 m6 c6 k6 _ (HL6.out.below X.out.1) (HR6.out.below X.out.1) HT6.out HU6.out hn6).mono ?_
                rintro e w6 ⟨rfl, hb⟩
                clear x0 y0 x1 y1 x2 y2 x3 y3 x4 y4 x5 y5 x6 y6
                rw [HE6.out]
                replace X := Lib.hid (X.out.below hb)
                clear hb
                obtain ⟨x0, x1, x2, x3, x4, x5, x6⟩ := (X.out.box (g := w.heap.size) (cs := [.int .i64 f0, .bool f1, .slice A2 n2 c2, .int .i64 f3, .slice A4 n4 c4, .int .i64 f5, .slice A6 n6 c6]) (by repeat (first | exact List.mem_cons_self | refine List.mem_cons_of_mem _ ?_))).c7
                obtain ⟨y0, y1, y2, y3, y4, y5, y6⟩ := (X.out.box (g := w.heap.size + 1) (cs := [.int .i64 f0, .bool f1, .slice B2 m2 k2, .int .i64 f3, .slice B4 m4 k4, .int .i64 f5, .slice B6 m6 k6]) (by repeat (first | exact List.mem_cons_self | refine List.mem_cons_of_mem _ ?_))).c7
                go_wp2_with fail
                go_ret
                exact GivesBool.of HN.out X.out.1
            · have HN : Hid (false = eq1 (.r [.i f0, .b f1, .l L2, .i f3, .l L4, .i f5, .l L6]) (.r [.i f0, .b f1, .l L2, .i f3, .l L4, .i g5, .l M6])) := Lib.hid (eq1_no (by simp [e5])).symm
              have hb5 : (f5 == g5) = false := by simpa using e5
              go_enter Try.func64, Try.ntmps64
              go_wp2_with fail
              refine (slEqX _ _ A2 B2 n2 m2 c2 k2 _ (HL2.out.below X.out.1) (HR2.out.below X.out.1) HT2.out HU2.out hn2).mono ?_
              rintro e w2 ⟨rfl, hb⟩
              rw [eqD_yes]
              replace X := Lib.hid (X.out.below hb)
              clear hb
              obtain ⟨x0, x1, x2, x3, x4, x5, x6⟩ := (X.out.box (g := w.heap.size) (cs := [.int .i64 f0, .bool f1, .slice A2 n2 c2, .int .i64 f3, .slice A4 n4 c4, .int .i64 f5, .slice A6 n6 c6]) (by repeat (first | exact List.mem_cons_self | refine List.mem_cons_of_mem _ ?_))).c7
              obtain ⟨y0, y1, y2, y3, y4, y5, y6⟩ := (X.out.box (g := w.heap.size + 1) (cs := [.int .i64 f0, .bool f1, .slice B2 m2 k2, .int .i64 f3, .slice B4 m4 k4, .int .i64 g5, .slice B6 m6 k6]) (by repeat (first | exact List.mem_cons_self | refine List.mem_cons_of_mem _ ?_))).c7
              go_wp2_with fail
              refine (slEqQ _ _ A4 B4 n4 m4 c4 k4 _ (HL4.out.below X.out.1) (HR4.out.below X.out.1) HT4.out HU4.out hn4).mono ?_
              rintro e w4 ⟨rfl, hb⟩
              clear x0 y0 x1 y1 x2 y2 x3 y3 x4 y4 x5 y5 x6 y6
              rw [eqD_yes]
              replace X := Lib.hid (X.out.below hb)
              clear hb
              obtain ⟨x0, x1, x2, x3, x4, x5, x6⟩ := (X.out.box (g := w.heap.size) (cs := [.int .i64 f0, .bool f1, .slice A2 n2 c2, .int .i64 f3, .slice A4 n4 c4, .int .i64 f5, .slice A6 n6 c6]) (by repeat (first | exact List.mem_cons_self | refine List.mem_cons_of_mem _ ?_))).c7
              obtain ⟨y0, y1, y2, y3, y4, y5, y6⟩ := (X.out.box (g := w.heap.size + 1) (cs := [.int .i64 f0, .bool f1, .slice B2 m2 k2, .int .i64 f3, .slice B4 m4 k4, .int .i64 g5, .slice B6 m6 k6]) (by repeat (first | exact List.mem_cons_self | refine List.mem_cons_of_mem _ ?_))).c7
              go_wp2_with fail
              go_ret
              exact GivesBool.of HN.out X.out.1
          · have HN : Hid (false = eq1 (.r [.i f0, .b f1, .l L2, .i f3, .l L4, .i f5, .l L6]) (.r [.i f0, .b f1, .l L2, .i f3, .l M4, .i g5, .l M6])) := Lib.hid (eq1_no (by simp [e4])).symm
            have HE4 := Lib.hid (eqD_no e4)
            clear e4
            go_enter Try.func64, Try.ntmps64
            go_wp2_with fail
            refine (slEqX _ _ A2 B2 n2 m2 c2 k2 _ (HL2.out.below X.out.1) (HR2.out.below X.out.1) HT2.out HU2.out hn2).mono ?_
            rintro e w2 ⟨rfl, hb⟩
            rw [eqD_yes]
            replace X := Lib.hid (X.out.below hb)
            clear hb
            obtain ⟨x0, x1, x2, x3, x4, x5, x6⟩ := (X.out.box (g := w.heap.size) (cs := [.int .i64 f0, .bool f1, .slice A2 n2 c2, .int .i64 f3, .slice A4 n4 c4, .int .i64 f5, .slice A6 n6 c6]) (by repeat (first | exact List.mem_cons_self | refine List.mem_cons_of_mem _ ?_))).c7
            obtain ⟨y0, y1, y2, y3, y4, y5, y6⟩ := (X.out.box (g := w.heap.size + 1) (cs := [.int .i64 f0, .bool f1, .slice B2 m2 k2, .int .i64 f3, .slice B4 m4 k4, .int .i64 g5, .slice B6 m6 k6]) (by repeat (first | exact List.mem_cons_self | refine List.mem_cons_of_mem _ ?_))).c7
            go_wp2_with fail
            refine (slEqQ _ _ A4 B4 n4 m4 c4 k4 _ (HL4.out.below X.out.1) (HR4.out.below X.out.1) HT4.out HU4.out hn4).mono ?_
            rintro e w4 ⟨rfl, hb⟩
            clear x0 y0 x1 y1 x2 y2 x3 y3 x4 y4 x5 y5 x6 y6
            rw [HE4.out]
            replace X := Lib.hid (X.out.below hb)
            clear hb
            obtain ⟨x0, x1, x2, x3, x4, x5, x6⟩ := (X.out.box (g := w.heap.size) (cs := [.int .i64 f0, .bool f1, .slice A2 n2 c2, .int .i64 f3, .slice A4 n4 c4, .int .i64 f5, .slice A6 n6 c6]) (by repeat (first | exact List.mem_cons_self | refine List.mem_cons_of_mem _ ?_))).c7
            obtain ⟨y0, y1, y2, y3, y4, y5, y6⟩ := (X.out.box (g := w.heap.size + 1) (cs := [.int .i64 f0, .bool f1, .slice B2 m2 k2, .int .i64 f3, .slice B4 m4 k4, .int .i64 g5, .slice B6 m6 k6]) (by repeat (first | exact List.mem_cons_self | refine List.mem_cons_of_mem _ ?_))).c7
            go_wp2_with fail
            go_ret
            exact GivesBool.of HN.out X.out.1
        · have HN : Hid (false = eq1 (.r [.i f0, .b f1, .l L2, .i f3, .l L4, .i f5, .l L6]) (.r [.i f0, .b f1, .l L2, .i g3, .l M4, .i g5, .l M6])) := Lib.hid (eq1_no (by simp [e3])).symm
          have hb3 : (f3 == g3) = false := by simpa using e3
          go_enter Try.func64, Try.ntmps64
          go_wp2_with fail
          refine (slEqX _ _ A2 B2 n2 m2 c2 k2 _ (HL2.out.below X.out.1) (HR2.out.below X.out.1) HT2.out HU2.out hn2).mono ?_
          rintro e w2 ⟨rfl, hb⟩
          rw [eqD_yes]
          replace X := Lib.hid (X.out.below hb)
          clear hb
          obtain ⟨x0, x1, x2, x3, x4, x5, x6⟩ := (X.out.box (g := w.heap.size) (cs := [.int .i64 f0, .bool f1, .slice A2 n2 c2, .int .i64 f3, .slice A4 n4 c4, .int .i64 f5, .slice A6 n6 c6]) (by repeat (first | exact List.mem_cons_self | refine List.mem_cons_of_mem _ ?_))).c7
          obtain ⟨y0, y1, y2, y3, y4, y5, y6⟩ := (X.out.box (g := w.heap.size + 1) (cs := [.int .i64 f0, .bool f1, .slice B2 m2 k2, .int .i64 g3, .slice B4 m4 k4, .int .i64 g5, .slice B6 m6 k6]) (by repeat (first | exact List.mem_cons_self | refine List.mem_cons_of_mem _ ?_))).c7
          go_wp2_with fail
          go_ret
          exact GivesBool.of HN.out X.out.1
      · have HN : Hid (false = eq1 (.r [.i f0, .b f1, .l L2, .i f3, .l L4, .i f5, .l L6]) (.r [.i f0, .b f1, .l M2, .i g3, .l M4, .i g5, .l M6])) := Lib.hid (eq1_no (by simp [e2])).symm
        have HE2 := Lib.hid (eqD_no e2)
        clear e2
        go_enter Try.func64, Try.ntmps64
        go_wp2_with fail
        refine (slEqX _ _ A2 B2 n2 m2 c2 k2 _ (HL2.out.below X.out.1) (HR2.out.below X.out.1) HT2.out HU2.out hn2).mono ?_
        rintro e w2 ⟨rfl, hb⟩
        rw [HE2.out]
        replace X := Lib.hid (X.out.below hb)
        clear hb
        obtain ⟨x0, x1, x2, x3, x4, x5, x6⟩ := (X.out.box (g := w.heap.size) (cs := [.int .i64 f0, .bool f1, .slice A2 n2 c2, .int .i64 f3, .slice A4 n4 c4, .int .i64 f5, .slice A6 n6 c6]) (by repeat (first | exact List.mem_cons_self | refine List.mem_cons_of_mem _ ?_))).c7
        obtain ⟨y0, y1, y2, y3, y4, y5, y6⟩ := (X.out.box (g := w.heap.size + 1) (cs := [.int .i64 f0, .bool f1, .slice B2 m2 k2, .int .i64 g3, .slice B4 m4 k4, .int .i64 g5, .slice B6 m6 k6]) (by repeat (first | exact List.mem_cons_self | refine List.mem_cons_of_mem _ ?_))).c7
        go_wp2_with fail
        go_ret
        exact GivesBool.of HN.out X.out.1
    · have HN : Hid (false = eq1 (.r [.i f0, .b f1, .l L2, .i f3, .l L4, .i f5, .l L6]) (.r [.i f0, .b g1, .l M2, .i g3, .l M4, .i g5, .l M6])) := Lib.hid (eq1_no (by simp [e1])).symm
      have hb1 : (f1 == g1) = false := (by cases f1 <;> cases g1 <;> simp_all)
      go_enter Try.func64, Try.ntmps64
      go_wp2_with fail
      go_ret
      exact GivesBool.of HN.out X.out.1
  · have HN : Hid (false = eq1 (.r [.i f0, .b f1, .l L2, .i f3, .l L4, .i f5, .l L6]) (.r [.i g0, .b g1, .l M2, .i g3, .l M4, .i g5, .l M6])) := Lib.hid (eq1_no (by simp [e0])).symm
    have hb0 : (f0 == g0) = false := by simpa using e0
    go_enter Try.func64, Try.ntmps64
    go_wp2_with fail
    go_ret
    exact GivesBool.of HN.out X.out.1
end Go.Proofs.Ytmeacgpebpfpbaa
