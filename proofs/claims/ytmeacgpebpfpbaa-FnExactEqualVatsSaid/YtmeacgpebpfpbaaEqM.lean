/- Chapter 11: the program's EqualMessages. -/
import Derived.Test.YtmeacgpebpfpbaaCom
import Derived.Test.YtmeacgpebpfpbaaEqMA
import Derived.LoopTactic
import Derived.Lib.Hide
import Derived.Deep.QuietTactic
import Derived.BigQuiet
import Derived.Deep.RegionWith
import Derived.Handy
namespace Go.Proofs.Ytmeacgpebpfpbaa
open Go.RowKit
set_option linter.unusedVariables false
set_option linter.unusedSimpArgs false
set_option maxRecDepth 100000 in
set_option maxHeartbeats 16000000 in
theorem implEqMsg (f0 : Int) (f1 : Int) (f2 : Int) (f3 : Int) (f4 : ByteArray) (L5 : List Dat) (A5 : Option Addr) (n5 c5 : Nat) (f6_0 : Int) (f6_1 : Int) (f7 : Int) (f8_0 : Int) (f8_1 : Int) (f8_2 : Int) (g0 : Int) (g1 : Int) (g2 : Int) (g3 : Int) (g4 : ByteArray) (M5 : List Dat) (B5 : Option Addr) (m5 k5 : Nat) (g6_0 : Int) (g6_1 : Int) (g7 : Int) (g8_0 : Int) (g8_1 : Int) (g8_2 : Int) (w : World) (hl5 : Lies w (.l L5) [.slice A5 n5 c5]) (hr5 : Lies w (.l M5) [.slice B5 m5 k5]) (ht5 : ∀ x ∈ L5, Has tyWire x) (hu5 : ∀ x ∈ M5, Has tyWire x) (hn5 : n5 ≤ 1099511627776) : Calls Try.prog 132 #[.agg #[.int .i64 f0, .int .i64 f1, .int .i64 f2, .int .i64 f3, .string f4, .slice A5 n5 c5, .int .i64 f6_0, .int .i64 f6_1, .int .i64 f7, .int .i64 f8_0, .int .i64 f8_1, .int .i64 f8_2], .agg #[.int .i64 g0, .int .i64 g1, .int .i64 g2, .int .i64 g3, .string g4, .slice B5 m5 k5, .int .i64 g6_0, .int .i64 g6_1, .int .i64 g7, .int .i64 g8_0, .int .i64 g8_1, .int .i64 g8_2]] w (GivesBool (eq1 (.r [.i f0, .i f1, .i f2, .i f3, .s f4, .l L5, .r [.i f6_0, .i f6_1], .i f7, .r [.i f8_0, .i f8_1, .i f8_2]]) (.r [.i g0, .i g1, .i g2, .i g3, .s g4, .l M5, .r [.i g6_0, .i g6_1], .i g7, .r [.i g8_0, .i g8_1, .i g8_2]])) w) := by
  have HL5 := Lib.hid hl5
  have HR5 := Lib.hid hr5
  have HT5 := Lib.hid ht5
  have HU5 := Lib.hid hu5
  clear hl5 hr5 ht5 hu5
  have X := ((Held.start w).push #[.int .i64 f0, .int .i64 f1, .int .i64 f2, .int .i64 f3, .string f4, .slice A5 n5 c5, .int .i64 f6_0, .int .i64 f6_1, .int .i64 f7, .int .i64 f8_0, .int .i64 f8_1, .int .i64 f8_2] 112).push #[.int .i64 g0, .int .i64 g1, .int .i64 g2, .int .i64 g3, .string g4, .slice B5 m5 k5, .int .i64 g6_0, .int .i64 g6_1, .int .i64 g7, .int .i64 g8_0, .int .i64 g8_1, .int .i64 g8_2] 112
  simp only [World.size_alloc] at X
  replace X := Lib.hid X
  by_cases e0 : f0 = g0
  · subst e0
    by_cases e1 : f1 = g1
    · subst e1
      by_cases e2 : f2 = g2
      · subst e2
        by_cases e3 : f3 = g3
        · subst e3
          by_cases e4 : f4 = g4
          · subst e4
            by_cases e5 : L5 = M5
            · subst e5
              by_cases e6_0 : f6_0 = g6_0
              · subst e6_0
                by_cases e6_1 : f6_1 = g6_1
                · subst e6_1
                  by_cases e7 : f7 = g7
                  · subst e7
                    by_cases e8_0 : f8_0 = g8_0
                    · subst e8_0
                      by_cases e8_1 : f8_1 = g8_1
                      · subst e8_1
                        by_cases e8_2 : f8_2 = g8_2
                        · subst e8_2
                          have HN := Lib.hid (eq1_yes (.r [.i f0, .i f1, .i f2, .i f3, .s f4, .l L5, .r [.i f6_0, .i f6_1], .i f7, .r [.i f8_0, .i f8_1, .i f8_2]])).symm
                          go_enter Try.func132, Try.ntmps132
                          go_wp2_with fail
                          refine (slEqW _ _ A5 B5 n5 m5 c5 k5 _ (HL5.out.below X.out.1) (HR5.out.below X.out.1) HT5.out HU5.out hn5).mono ?_
                          rintro e w5 ⟨rfl, hb⟩
                          rw [eqD_yes]
                          replace X := Lib.hid (X.out.below hb)
                          clear hb
                          obtain ⟨x0, x1, x2, x3, x4, x5, x6, x7, x8, x9, x10, x11⟩ := (X.out.box (g := w.heap.size) (cs := [.int .i64 f0, .int .i64 f1, .int .i64 f2, .int .i64 f3, .string f4, .slice A5 n5 c5, .int .i64 f6_0, .int .i64 f6_1, .int .i64 f7, .int .i64 f8_0, .int .i64 f8_1, .int .i64 f8_2]) (by repeat (first | exact List.mem_cons_self | refine List.mem_cons_of_mem _ ?_))).c12
                          obtain ⟨y0, y1, y2, y3, y4, y5, y6, y7, y8, y9, y10, y11⟩ := (X.out.box (g := w.heap.size + 1) (cs := [.int .i64 f0, .int .i64 f1, .int .i64 f2, .int .i64 f3, .string f4, .slice B5 m5 k5, .int .i64 f6_0, .int .i64 f6_1, .int .i64 f7, .int .i64 f8_0, .int .i64 f8_1, .int .i64 f8_2]) (by repeat (first | exact List.mem_cons_self | refine List.mem_cons_of_mem _ ?_))).c12
                          go_wp2_with fail
                          go_ret
                          exact GivesBool.of HN.out X.out.1
                        · have HN : Hid (false = eq1 (.r [.i f0, .i f1, .i f2, .i f3, .s f4, .l L5, .r [.i f6_0, .i f6_1], .i f7, .r [.i f8_0, .i f8_1, .i f8_2]]) (.r [.i f0, .i f1, .i f2, .i f3, .s f4, .l L5, .r [.i f6_0, .i f6_1], .i f7, .r [.i f8_0, .i f8_1, .i g8_2]])) := Lib.hid (eq1_no (by simp [e8_2])).symm
                          have hb8_2 : (f8_2 == g8_2) = false := by simpa using e8_2
                          go_enter Try.func132, Try.ntmps132
                          go_wp2_with fail
                          refine (slEqW _ _ A5 B5 n5 m5 c5 k5 _ (HL5.out.below X.out.1) (HR5.out.below X.out.1) HT5.out HU5.out hn5).mono ?_
                          rintro e w5 ⟨rfl, hb⟩
                          rw [eqD_yes]
                          replace X := Lib.hid (X.out.below hb)
                          clear hb
                          obtain ⟨x0, x1, x2, x3, x4, x5, x6, x7, x8, x9, x10, x11⟩ := (X.out.box (g := w.heap.size) (cs := [.int .i64 f0, .int .i64 f1, .int .i64 f2, .int .i64 f3, .string f4, .slice A5 n5 c5, .int .i64 f6_0, .int .i64 f6_1, .int .i64 f7, .int .i64 f8_0, .int .i64 f8_1, .int .i64 f8_2]) (by repeat (first | exact List.mem_cons_self | refine List.mem_cons_of_mem _ ?_))).c12
                          obtain ⟨y0, y1, y2, y3, y4, y5, y6, y7, y8, y9, y10, y11⟩ := (X.out.box (g := w.heap.size + 1) (cs := [.int .i64 f0, .int .i64 f1, .int .i64 f2, .int .i64 f3, .string f4, .slice B5 m5 k5, .int .i64 f6_0, .int .i64 f6_1, .int .i64 f7, .int .i64 f8_0, .int .i64 f8_1, .int .i64 g8_2]) (by repeat (first | exact List.mem_cons_self | refine List.mem_cons_of_mem _ ?_))).c12
                          go_wp2_with fail
                          go_ret
                          exact GivesBool.of HN.out X.out.1
                      · have HN : Hid (false = eq1 (.r [.i f0, .i f1, .i f2, .i f3, .s f4, .l L5, .r [.i f6_0, .i f6_1], .i f7, .r [.i f8_0, .i f8_1, .i f8_2]]) (.r [.i f0, .i f1, .i f2, .i f3, .s f4, .l L5, .r [.i f6_0, .i f6_1], .i f7, .r [.i f8_0, .i g8_1, .i g8_2]])) := Lib.hid (eq1_no (by simp [e8_1])).symm
                        have hb8_1 : (f8_1 == g8_1) = false := by simpa using e8_1
                        go_enter Try.func132, Try.ntmps132
                        go_wp2_with fail
                        refine (slEqW _ _ A5 B5 n5 m5 c5 k5 _ (HL5.out.below X.out.1) (HR5.out.below X.out.1) HT5.out HU5.out hn5).mono ?_
                        rintro e w5 ⟨rfl, hb⟩
                        rw [eqD_yes]
                        replace X := Lib.hid (X.out.below hb)
                        clear hb
                        obtain ⟨x0, x1, x2, x3, x4, x5, x6, x7, x8, x9, x10, x11⟩ := (X.out.box (g := w.heap.size) (cs := [.int .i64 f0, .int .i64 f1, .int .i64 f2, .int .i64 f3, .string f4, .slice A5 n5 c5, .int .i64 f6_0, .int .i64 f6_1, .int .i64 f7, .int .i64 f8_0, .int .i64 f8_1, .int .i64 f8_2]) (by repeat (first | exact List.mem_cons_self | refine List.mem_cons_of_mem _ ?_))).c12
                        obtain ⟨y0, y1, y2, y3, y4, y5, y6, y7, y8, y9, y10, y11⟩ := (X.out.box (g := w.heap.size + 1) (cs := [.int .i64 f0, .int .i64 f1, .int .i64 f2, .int .i64 f3, .string f4, .slice B5 m5 k5, .int .i64 f6_0, .int .i64 f6_1, .int .i64 f7, .int .i64 f8_0, .int .i64 g8_1, .int .i64 g8_2]) (by repeat (first | exact List.mem_cons_self | refine List.mem_cons_of_mem _ ?_))).c12
                        go_wp2_with fail
                        go_ret
                        exact GivesBool.of HN.out X.out.1
                    · have HN : Hid (false = eq1 (.r [.i f0, .i f1, .i f2, .i f3, .s f4, .l L5, .r [.i f6_0, .i f6_1], .i f7, .r [.i f8_0, .i f8_1, .i f8_2]]) (.r [.i f0, .i f1, .i f2, .i f3, .s f4, .l L5, .r [.i f6_0, .i f6_1], .i f7, .r [.i g8_0, .i g8_1, .i g8_2]])) := Lib.hid (eq1_no (by simp [e8_0])).symm
                      have hb8_0 : (f8_0 == g8_0) = false := by simpa using e8_0
                      go_enter Try.func132, Try.ntmps132
                      go_wp2_with fail
                      refine (slEqW _ _ A5 B5 n5 m5 c5 k5 _ (HL5.out.below X.out.1) (HR5.out.below X.out.1) HT5.out HU5.out hn5).mono ?_
                      rintro e w5 ⟨rfl, hb⟩
                      rw [eqD_yes]
                      replace X := Lib.hid (X.out.below hb)
                      clear hb
                      obtain ⟨x0, x1, x2, x3, x4, x5, x6, x7, x8, x9, x10, x11⟩ := (X.out.box (g := w.heap.size) (cs := [.int .i64 f0, .int .i64 f1, .int .i64 f2, .int .i64 f3, .string f4, .slice A5 n5 c5, .int .i64 f6_0, .int .i64 f6_1, .int .i64 f7, .int .i64 f8_0, .int .i64 f8_1, .int .i64 f8_2]) (by repeat (first | exact List.mem_cons_self | refine List.mem_cons_of_mem _ ?_))).c12
                      obtain ⟨y0, y1, y2, y3, y4, y5, y6, y7, y8, y9, y10, y11⟩ := (X.out.box (g := w.heap.size + 1) (cs := [.int .i64 f0, .int .i64 f1, .int .i64 f2, .int .i64 f3, .string f4, .slice B5 m5 k5, .int .i64 f6_0, .int .i64 f6_1, .int .i64 f7, .int .i64 g8_0, .int .i64 g8_1, .int .i64 g8_2]) (by repeat (first | exact List.mem_cons_self | refine List.mem_cons_of_mem _ ?_))).c12
                      go_wp2_with fail
                      go_ret
                      exact GivesBool.of HN.out X.out.1
                  · have HN : Hid (false = eq1 (.r [.i f0, .i f1, .i f2, .i f3, .s f4, .l L5, .r [.i f6_0, .i f6_1], .i f7, .r [.i f8_0, .i f8_1, .i f8_2]]) (.r [.i f0, .i f1, .i f2, .i f3, .s f4, .l L5, .r [.i f6_0, .i f6_1], .i g7, .r [.i g8_0, .i g8_1, .i g8_2]])) := Lib.hid (eq1_no (by simp [e7])).symm
                    have hb7 : (f7 == g7) = false := by simpa using e7
                    go_enter Try.func132, Try.ntmps132
                    go_wp2_with fail
                    refine (slEqW _ _ A5 B5 n5 m5 c5 k5 _ (HL5.out.below X.out.1) (HR5.out.below X.out.1) HT5.out HU5.out hn5).mono ?_
                    rintro e w5 ⟨rfl, hb⟩
                    rw [eqD_yes]
                    replace X := Lib.hid (X.out.below hb)
                    clear hb
                    obtain ⟨x0, x1, x2, x3, x4, x5, x6, x7, x8, x9, x10, x11⟩ := (X.out.box (g := w.heap.size) (cs := [.int .i64 f0, .int .i64 f1, .int .i64 f2, .int .i64 f3, .string f4, .slice A5 n5 c5, .int .i64 f6_0, .int .i64 f6_1, .int .i64 f7, .int .i64 f8_0, .int .i64 f8_1, .int .i64 f8_2]) (by repeat (first | exact List.mem_cons_self | refine List.mem_cons_of_mem _ ?_))).c12
                    obtain ⟨y0, y1, y2, y3, y4, y5, y6, y7, y8, y9, y10, y11⟩ := (X.out.box (g := w.heap.size + 1) (cs := [.int .i64 f0, .int .i64 f1, .int .i64 f2, .int .i64 f3, .string f4, .slice B5 m5 k5, .int .i64 f6_0, .int .i64 f6_1, .int .i64 g7, .int .i64 g8_0, .int .i64 g8_1, .int .i64 g8_2]) (by repeat (first | exact List.mem_cons_self | refine List.mem_cons_of_mem _ ?_))).c12
                    go_wp2_with fail
                    go_ret
                    exact GivesBool.of HN.out X.out.1
                · have HN : Hid (false = eq1 (.r [.i f0, .i f1, .i f2, .i f3, .s f4, .l L5, .r [.i f6_0, .i f6_1], .i f7, .r [.i f8_0, .i f8_1, .i f8_2]]) (.r [.i f0, .i f1, .i f2, .i f3, .s f4, .l L5, .r [.i f6_0, .i g6_1], .i g7, .r [.i g8_0, .i g8_1, .i g8_2]])) := Lib.hid (eq1_no (by simp [e6_1])).symm
                  have hb6_1 : (f6_1 == g6_1) = false := by simpa using e6_1
                  go_enter Try.func132, Try.ntmps132
                  go_wp2_with fail
                  refine (slEqW _ _ A5 B5 n5 m5 c5 k5 _ (HL5.out.below X.out.1) (HR5.out.below X.out.1) HT5.out HU5.out hn5).mono ?_
                  rintro e w5 ⟨rfl, hb⟩
                  rw [eqD_yes]
                  replace X := Lib.hid (X.out.below hb)
                  clear hb
                  obtain ⟨x0, x1, x2, x3, x4, x5, x6, x7, x8, x9, x10, x11⟩ := (X.out.box (g := w.heap.size) (cs := [.int .i64 f0, .int .i64 f1, .int .i64 f2, .int .i64 f3, .string f4, .slice A5 n5 c5, .int .i64 f6_0, .int .i64 f6_1, .int .i64 f7, .int .i64 f8_0, .int .i64 f8_1, .int .i64 f8_2]) (by repeat (first | exact List.mem_cons_self | refine List.mem_cons_of_mem _ ?_))).c12
                  obtain ⟨y0, y1, y2, y3, y4, y5, y6, y7, y8, y9, y10, y11⟩ := (X.out.box (g := w.heap.size + 1) (cs := [.int .i64 f0, .int .i64 f1, .int .i64 f2, .int .i64 f3, .string f4, .slice B5 m5 k5, .int .i64 f6_0, .int .i64 g6_1, .int .i64 g7, .int .i64 g8_0, .int .i64 g8_1, .int .i64 g8_2]) (by repeat (first | exact List.mem_cons_self | refine List.mem_cons_of_mem _ ?_))).c12
                  go_wp2_with fail
                  go_ret
                  exact GivesBool.of HN.out X.out.1
              · have HN : Hid (false = eq1 (.r [.i f0, .i f1, .i f2, .i f3, .s f4, .l L5, .r [.i f6_0, .i f6_1], .i f7, .r [.i f8_0, .i f8_1, .i f8_2]]) (.r [.i f0, .i f1, .i f2, .i f3, .s f4, .l L5, .r [.i g6_0, .i g6_1], .i g7, .r [.i g8_0, .i g8_1, .i g8_2]])) := Lib.hid (eq1_no (by simp [e6_0])).symm
                have hb6_0 : (f6_0 == g6_0) = false := by simpa using e6_0
                go_enter Try.func132, Try.ntmps132
                go_wp2_with fail
                refine (slEqW _ _ A5 B5 n5 m5 c5 k5 _ (HL5.out.below X.out.1) (HR5.out.below X.out.1) HT5.out HU5.out hn5).mono ?_
                rintro e w5 ⟨rfl, hb⟩
                rw [eqD_yes]
                replace X := Lib.hid (X.out.below hb)
                clear hb
                obtain ⟨x0, x1, x2, x3, x4, x5, x6, x7, x8, x9, x10, x11⟩ := (X.out.box (g := w.heap.size) (cs := [.int .i64 f0, .int .i64 f1, .int .i64 f2, .int .i64 f3, .string f4, .slice A5 n5 c5, .int .i64 f6_0, .int .i64 f6_1, .int .i64 f7, .int .i64 f8_0, .int .i64 f8_1, .int .i64 f8_2]) (by repeat (first | exact List.mem_cons_self | refine List.mem_cons_of_mem _ ?_))).c12
                obtain ⟨y0, y1, y2, y3, y4, y5, y6, y7, y8, y9, y10, y11⟩ := (X.out.box (g := w.heap.size + 1) (cs := [.int .i64 f0, .int .i64 f1, .int .i64 f2, .int .i64 f3, .string f4, .slice B5 m5 k5, .int .i64 g6_0, .int .i64 g6_1, .int .i64 g7, .int .i64 g8_0, .int .i64 g8_1, .int .i64 g8_2]) (by repeat (first | exact List.mem_cons_self | refine List.mem_cons_of_mem _ ?_))).c12
                go_wp2_with fail
                go_ret
                exact GivesBool.of HN.out X.out.1
            · have HN : Hid (false = eq1 (.r [.i f0, .i f1, .i f2, .i f3, .s f4, .l L5, .r [.i f6_0, .i f6_1], .i f7, .r [.i f8_0, .i f8_1, .i f8_2]]) (.r [.i f0, .i f1, .i f2, .i f3, .s f4, .l M5, .r [.i g6_0, .i g6_1], .i g7, .r [.i g8_0, .i g8_1, .i g8_2]])) := Lib.hid (eq1_no (by simp [e5])).symm
              have HE5 := Lib.hid (eqD_no e5)
              clear e5
              go_enter Try.func132, Try.ntmps132
              go_wp2_with fail
              refine (slEqW _ _ A5 B5 n5 m5 c5 k5 _ (HL5.out.below X.out.1) (HR5.out.below X.out.1) HT5.out HU5.out hn5).mono ?_
              rintro e w5 ⟨rfl, hb⟩
              rw [HE5.out]
              replace X := Lib.hid (X.out.below hb)
              clear hb
              obtain ⟨x0, x1, x2, x3, x4, x5, x6, x7, x8, x9, x10, x11⟩ := (X.out.box (g := w.heap.size) (cs := [.int .i64 f0, .int .i64 f1, .int .i64 f2, .int .i64 f3, .string f4, .slice A5 n5 c5, .int .i64 f6_0, .int .i64 f6_1, .int .i64 f7, .int .i64 f8_0, .int .i64 f8_1, .int .i64 f8_2]) (by repeat (first | exact List.mem_cons_self | refine List.mem_cons_of_mem _ ?_))).c12
              obtain ⟨y0, y1, y2, y3, y4, y5, y6, y7, y8, y9, y10, y11⟩ := (X.out.box (g := w.heap.size + 1) (cs := [.int .i64 f0, .int .i64 f1, .int .i64 f2, .int .i64 f3, .string f4, .slice B5 m5 k5, .int .i64 g6_0, .int .i64 g6_1, .int .i64 g7, .int .i64 g8_0, .int .i64 g8_1, .int .i64 g8_2]) (by repeat (first | exact List.mem_cons_self | refine List.mem_cons_of_mem _ ?_))).c12
              go_wp2_with fail
              go_ret
              exact GivesBool.of HN.out X.out.1
          · have HN : Hid (false = eq1 (.r [.i f0, .i f1, .i f2, .i f3, .s f4, .l L5, .r [.i f6_0, .i f6_1], .i f7, .r [.i f8_0, .i f8_1, .i f8_2]]) (.r [.i f0, .i f1, .i f2, .i f3, .s g4, .l M5, .r [.i g6_0, .i g6_1], .i g7, .r [.i g8_0, .i g8_1, .i g8_2]])) := Lib.hid (eq1_no (by simp [e4])).symm
            have he1 := bytesNe e4
            have he2 := bytesNeb e4
            clear e4
            go_enter Try.func132, Try.ntmps132
            go_wp2_with fail
            go_ret
            exact GivesBool.of HN.out X.out.1
        · have HN : Hid (false = eq1 (.r [.i f0, .i f1, .i f2, .i f3, .s f4, .l L5, .r [.i f6_0, .i f6_1], .i f7, .r [.i f8_0, .i f8_1, .i f8_2]]) (.r [.i f0, .i f1, .i f2, .i g3, .s g4, .l M5, .r [.i g6_0, .i g6_1], .i g7, .r [.i g8_0, .i g8_1, .i g8_2]])) := Lib.hid (eq1_no (by simp [e3])).symm
          have hb3 : (f3 == g3) = false := by simpa using e3
          go_enter Try.func132, Try.ntmps132
          go_wp2_with fail
          go_ret
          exact GivesBool.of HN.out X.out.1
      · have HN : Hid (false = eq1 (.r [.i f0, .i f1, .i f2, .i f3, .s f4, .l L5, .r [.i f6_0, .i f6_1], .i f7, .r [.i f8_0, .i f8_1, .i f8_2]]) (.r [.i f0, .i f1, .i g2, .i g3, .s g4, .l M5, .r [.i g6_0, .i g6_1], .i g7, .r [.i g8_0, .i g8_1, .i g8_2]])) := Lib.hid (eq1_no (by simp [e2])).symm
        have hb2 : (f2 == g2) = false := by simpa using e2
        go_enter Try.func132, Try.ntmps132
        go_wp2_with fail
        go_ret
        exact GivesBool.of HN.out X.out.1
    · have HN : Hid (false = eq1 (.r [.i f0, .i f1, .i f2, .i f3, .s f4, .l L5, .r [.i f6_0, .i f6_1], .i f7, .r [.i f8_0, .i f8_1, .i f8_2]]) (.r [.i f0, .i g1, .i g2, .i g3, .s g4, .l M5, .r [.i g6_0, .i g6_1], .i g7, .r [.i g8_0, .i g8_1, .i g8_2]])) := Lib.hid (eq1_no (by simp [e1])).symm
      have hb1 : (f1 == g1) = false := by simpa using e1
      go_enter Try.func132, Try.ntmps132
      go_wp2_with fail
      go_ret
      exact GivesBool.of HN.out X.out.1
  · have HN : Hid (false = eq1 (.r [.i f0, .i f1, .i f2, .i f3, .s f4, .l L5, .r [.i f6_0, .i f6_1], .i f7, .r [.i f8_0, .i f8_1, .i f8_2]]) (.r [.i g0, .i g1, .i g2, .i g3, .s g4, .l M5, .r [.i g6_0, .i g6_1], .i g7, .r [.i g8_0, .i g8_1, .i g8_2]])) := Lib.hid (eq1_no (by simp [e0])).symm
    have hb0 : (f0 == g0) = false := by simpa using e0
    go_enter Try.func132, Try.ntmps132
    go_wp2_with fail
    go_ret
    exact GivesBool.of HN.out X.out.1
end Go.Proofs.Ytmeacgpebpfpbaa
