/- The program's chapter 9: one message against another. -/
import Derived.Test.YtmeacgpebpfpbaaCom
import Derived.Test.YtmeacgpebpfpbaaEntV
import Derived.LoopTactic
import Derived.Lib.Hide
import Derived.Deep.QuietTactic
import Derived.BigQuiet
import Derived.Deep.RegionWith
import Derived.Handy
namespace Go.Proofs.Ytmeacgpebpfpbaa
open Go.RowKit
set_option linter.unusedVariables false
set_option linter.unusedSimpArgs false
set_option maxRecDepth 100000 in
set_option maxHeartbeats 4000000 in
theorem implEqSent (f0 : Int) (f1 : ByteArray) (L2 : List Dat) (A2 : Option Addr) (n2 c2 : Nat) (f3 : Int) (f4_0 : Int) (f4_1 : Int) (f4_2 : Int) (g0 : Int) (g1 : ByteArray) (M2 : List Dat) (B2 : Option Addr) (m2 k2 : Nat) (g3 : Int) (g4_0 : Int) (g4_1 : Int) (g4_2 : Int) (w : World) (hl2 : Lies w (.l L2) [.slice A2 n2 c2]) (hr2 : Lies w (.l M2) [.slice B2 m2 k2]) (ht2 : ∀ x ∈ L2, Has tyValue x) (hu2 : ∀ x ∈ M2, Has tyValue x) (hn2 : n2 ≤ 1099511627776) : Calls Try.prog 129 #[.agg #[.int .i64 f0, .string f1, .slice A2 n2 c2, .int .i64 f3, .int .i64 f4_0, .int .i64 f4_1, .int .i64 f4_2], .agg #[.int .i64 g0, .string g1, .slice B2 m2 k2, .int .i64 g3, .int .i64 g4_0, .int .i64 g4_1, .int .i64 g4_2]] w (GivesBool (eq1 (.r [.i f0, .s f1, .l L2, .i f3, .r [.i f4_0, .i f4_1, .i f4_2]]) (.r [.i g0, .s g1, .l M2, .i g3, .r [.i g4_0, .i g4_1, .i g4_2]])) w) := by
  have HL2 := Lib.hid hl2
  have HR2 := Lib.hid hr2
  have HT2 := Lib.hid ht2
  have HU2 := Lib.hid hu2
  clear hl2 hr2 ht2 hu2
  have X := ((Held.start w).push #[.int .i64 f0, .string f1, .slice A2 n2 c2, .int .i64 f3, .int .i64 f4_0, .int .i64 f4_1, .int .i64 f4_2] 153).push #[.int .i64 g0, .string g1, .slice B2 m2 k2, .int .i64 g3, .int .i64 g4_0, .int .i64 g4_1, .int .i64 g4_2] 153
  simp only [World.size_alloc] at X
  replace X := Lib.hid X
  by_cases e0 : f0 = g0
  · subst e0
    by_cases e1 : f1 = g1
    · subst e1
      by_cases e2 : L2 = M2
      · subst e2
        by_cases e3 : f3 = g3
        · subst e3
          by_cases e4_0 : f4_0 = g4_0
          · subst e4_0
            by_cases e4_1 : f4_1 = g4_1
            · subst e4_1
              by_cases e4_2 : f4_2 = g4_2
              · subst e4_2
                have HN := Lib.hid (eq1_yes (.r [.i f0, .s f1, .l L2, .i f3, .r [.i f4_0, .i f4_1, .i f4_2]])).symm
                go_enter Try.func129, Try.ntmps129
                go_wp2_with fail
                refine (implEqVD (HL2.out.below X.out.1) (HR2.out.below X.out.1) HT2.out HU2.out hn2).mono ?_
                rintro e w2 ⟨rfl, hb⟩
                rw [eqD_yes]
                replace X := Lib.hid (X.out.below hb)
                clear hb
                obtain ⟨x0, x1, x2, x3, x4, x5, x6⟩ := (X.out.box (g := w.heap.size) (cs := [.int .i64 f0, .string f1, .slice A2 n2 c2, .int .i64 f3, .int .i64 f4_0, .int .i64 f4_1, .int .i64 f4_2]) (by repeat (first | exact List.mem_cons_self | refine List.mem_cons_of_mem _ ?_))).c7
                obtain ⟨y0, y1, y2, y3, y4, y5, y6⟩ := (X.out.box (g := w.heap.size + 1) (cs := [.int .i64 f0, .string f1, .slice B2 m2 k2, .int .i64 f3, .int .i64 f4_0, .int .i64 f4_1, .int .i64 f4_2]) (by repeat (first | exact List.mem_cons_self | refine List.mem_cons_of_mem _ ?_))).c7
                go_wp2_with fail
                go_ret
                exact GivesBool.of HN.out X.out.1
              · have HN : Hid (false = eq1 (.r [.i f0, .s f1, .l L2, .i f3, .r [.i f4_0, .i f4_1, .i f4_2]]) (.r [.i f0, .s f1, .l L2, .i f3, .r [.i f4_0, .i f4_1, .i g4_2]])) := Lib.hid (eq1_no (by simp [e4_2])).symm
                have hb4_2 : (f4_2 == g4_2) = false := by simpa using e4_2
                go_enter Try.func129, Try.ntmps129
                go_wp2_with fail
                refine (implEqVD (HL2.out.below X.out.1) (HR2.out.below X.out.1) HT2.out HU2.out hn2).mono ?_
                rintro e w2 ⟨rfl, hb⟩
                rw [eqD_yes]
                replace X := Lib.hid (X.out.below hb)
                clear hb
                obtain ⟨x0, x1, x2, x3, x4, x5, x6⟩ := (X.out.box (g := w.heap.size) (cs := [.int .i64 f0, .string f1, .slice A2 n2 c2, .int .i64 f3, .int .i64 f4_0, .int .i64 f4_1, .int .i64 f4_2]) (by repeat (first | exact List.mem_cons_self | refine List.mem_cons_of_mem _ ?_))).c7
                obtain ⟨y0, y1, y2, y3, y4, y5, y6⟩ := (X.out.box (g := w.heap.size + 1) (cs := [.int .i64 f0, .string f1, .slice B2 m2 k2, .int .i64 f3, .int .i64 f4_0, .int .i64 f4_1, .int .i64 g4_2]) (by repeat (first | exact List.mem_cons_self | refine List.mem_cons_of_mem _ ?_))).c7
                go_wp2_with fail
                go_ret
                exact GivesBool.of HN.out X.out.1
            · have HN : Hid (false = eq1 (.r [.i f0, .s f1, .l L2, .i f3, .r [.i f4_0, .i f4_1, .i f4_2]]) (.r [.i f0, .s f1, .l L2, .i f3, .r [.i f4_0, .i g4_1, .i g4_2]])) := Lib.hid (eq1_no (by simp [e4_1])).symm
              have hb4_1 : (f4_1 == g4_1) = false := by simpa using e4_1
              go_enter Try.func129, Try.ntmps129
              go_wp2_with fail
              refine (implEqVD (HL2.out.below X.out.1) (HR2.out.below X.out.1) HT2.out HU2.out hn2).mono ?_
              rintro e w2 ⟨rfl, hb⟩
              rw [eqD_yes]
              replace X := Lib.hid (X.out.below hb)
              clear hb
              obtain ⟨x0, x1, x2, x3, x4, x5, x6⟩ := (X.out.box (g := w.heap.size) (cs := [.int .i64 f0, .string f1, .slice A2 n2 c2, .int .i64 f3, .int .i64 f4_0, .int .i64 f4_1, .int .i64 f4_2]) (by repeat (first | exact List.mem_cons_self | refine List.mem_cons_of_mem _ ?_))).c7
              obtain ⟨y0, y1, y2, y3, y4, y5, y6⟩ := (X.out.box (g := w.heap.size + 1) (cs := [.int .i64 f0, .string f1, .slice B2 m2 k2, .int .i64 f3, .int .i64 f4_0, .int .i64 g4_1, .int .i64 g4_2]) (by repeat (first | exact List.mem_cons_self | refine List.mem_cons_of_mem _ ?_))).c7
              go_wp2_with fail
              go_ret
              exact GivesBool.of HN.out X.out.1
          · have HN : Hid (false = eq1 (.r [.i f0, .s f1, .l L2, .i f3, .r [.i f4_0, .i f4_1, .i f4_2]]) (.r [.i f0, .s f1, .l L2, .i f3, .r [.i g4_0, .i g4_1, .i g4_2]])) := Lib.hid (eq1_no (by simp [e4_0])).symm
            have hb4_0 : (f4_0 == g4_0) = false := by simpa using e4_0
            go_enter Try.func129, Try.ntmps129
            go_wp2_with fail
            refine (implEqVD (HL2.out.below X.out.1) (HR2.out.below X.out.1) HT2.out HU2.out hn2).mono ?_
            rintro e w2 ⟨rfl, hb⟩
            rw [eqD_yes]
            replace X := Lib.hid (X.out.below hb)
            clear hb
            obtain ⟨x0, x1, x2, x3, x4, x5, x6⟩ := (X.out.box (g := w.heap.size) (cs := [.int .i64 f0, .string f1, .slice A2 n2 c2, .int .i64 f3, .int .i64 f4_0, .int .i64 f4_1, .int .i64 f4_2]) (by repeat (first | exact List.mem_cons_self | refine List.mem_cons_of_mem _ ?_))).c7
            obtain ⟨y0, y1, y2, y3, y4, y5, y6⟩ := (X.out.box (g := w.heap.size + 1) (cs := [.int .i64 f0, .string f1, .slice B2 m2 k2, .int .i64 f3, .int .i64 g4_0, .int .i64 g4_1, .int .i64 g4_2]) (by repeat (first | exact List.mem_cons_self | refine List.mem_cons_of_mem _ ?_))).c7
            go_wp2_with fail
            go_ret
            exact GivesBool.of HN.out X.out.1
        · have HN : Hid (false = eq1 (.r [.i f0, .s f1, .l L2, .i f3, .r [.i f4_0, .i f4_1, .i f4_2]]) (.r [.i f0, .s f1, .l L2, .i g3, .r [.i g4_0, .i g4_1, .i g4_2]])) := Lib.hid (eq1_no (by simp [e3])).symm
          have hb3 : (f3 == g3) = false := by simpa using e3
          go_enter Try.func129, Try.ntmps129
          go_wp2_with fail
          refine (implEqVD (HL2.out.below X.out.1) (HR2.out.below X.out.1) HT2.out HU2.out hn2).mono ?_
          rintro e w2 ⟨rfl, hb⟩
          rw [eqD_yes]
          replace X := Lib.hid (X.out.below hb)
          clear hb
          obtain ⟨x0, x1, x2, x3, x4, x5, x6⟩ := (X.out.box (g := w.heap.size) (cs := [.int .i64 f0, .string f1, .slice A2 n2 c2, .int .i64 f3, .int .i64 f4_0, .int .i64 f4_1, .int .i64 f4_2]) (by repeat (first | exact List.mem_cons_self | refine List.mem_cons_of_mem _ ?_))).c7
          obtain ⟨y0, y1, y2, y3, y4, y5, y6⟩ := (X.out.box (g := w.heap.size + 1) (cs := [.int .i64 f0, .string f1, .slice B2 m2 k2, .int .i64 g3, .int .i64 g4_0, .int .i64 g4_1, .int .i64 g4_2]) (by repeat (first | exact List.mem_cons_self | refine List.mem_cons_of_mem _ ?_))).c7
          go_wp2_with fail
          go_ret
          exact GivesBool.of HN.out X.out.1
      · have HN : Hid (false = eq1 (.r [.i f0, .s f1, .l L2, .i f3, .r [.i f4_0, .i f4_1, .i f4_2]]) (.r [.i f0, .s f1, .l M2, .i g3, .r [.i g4_0, .i g4_1, .i g4_2]])) := Lib.hid (eq1_no (by simp [e2])).symm
        have HE2 := Lib.hid (eqD_no e2)
        clear e2
        go_enter Try.func129, Try.ntmps129
        go_wp2_with fail
        refine (implEqVD (HL2.out.below X.out.1) (HR2.out.below X.out.1) HT2.out HU2.out hn2).mono ?_
        rintro e w2 ⟨rfl, hb⟩
        rw [HE2.out]
        replace X := Lib.hid (X.out.below hb)
        clear hb
        obtain ⟨x0, x1, x2, x3, x4, x5, x6⟩ := (X.out.box (g := w.heap.size) (cs := [.int .i64 f0, .string f1, .slice A2 n2 c2, .int .i64 f3, .int .i64 f4_0, .int .i64 f4_1, .int .i64 f4_2]) (by repeat (first | exact List.mem_cons_self | refine List.mem_cons_of_mem _ ?_))).c7
        obtain ⟨y0, y1, y2, y3, y4, y5, y6⟩ := (X.out.box (g := w.heap.size + 1) (cs := [.int .i64 f0, .string f1, .slice B2 m2 k2, .int .i64 g3, .int .i64 g4_0, .int .i64 g4_1, .int .i64 g4_2]) (by repeat (first | exact List.mem_cons_self | refine List.mem_cons_of_mem _ ?_))).c7
        go_wp2_with fail
        go_ret
        exact GivesBool.of HN.out X.out.1
    · have HN : Hid (false = eq1 (.r [.i f0, .s f1, .l L2, .i f3, .r [.i f4_0, .i f4_1, .i f4_2]]) (.r [.i f0, .s g1, .l M2, .i g3, .r [.i g4_0, .i g4_1, .i g4_2]])) := Lib.hid (eq1_no (by simp [e1])).symm
      have he1 := bytesNe e1
      have he2 := bytesNeb e1
      clear e1
      go_enter Try.func129, Try.ntmps129
      go_wp2_with fail
      go_ret
      exact GivesBool.of HN.out X.out.1
  · have HN : Hid (false = eq1 (.r [.i f0, .s f1, .l L2, .i f3, .r [.i f4_0, .i f4_1, .i f4_2]]) (.r [.i g0, .s g1, .l M2, .i g3, .r [.i g4_0, .i g4_1, .i g4_2]])) := Lib.hid (eq1_no (by simp [e0])).symm
    have hb0 : (f0 == g0) = false := by simpa using e0
    go_enter Try.func129, Try.ntmps129
    go_wp2_with fail
    go_ret
    exact GivesBool.of HN.out X.out.1
end Go.Proofs.Ytmeacgpebpfpbaa
