/- The program's chapter 9: one entity against another. -/
import Derived.Test.YtmeacgpebpfpbaaCom
import Derived.Test.YtmeacgpebpfpbaaSentI
import Derived.Test.YtmeacgpebpfpbaaAskE
import Derived.LoopTactic
import Derived.Lib.Hide
import Derived.Deep.QuietTactic
import Derived.BigQuiet
import Derived.Deep.RegionWith
import Derived.Handy
namespace Go.Proofs.Ytmeacgpebpfpbaa
open Go.RowKit
set_option linter.unusedVariables false
set_option linter.unusedSimpArgs false
set_option maxRecDepth 100000 in
set_option maxHeartbeats 4000000 in
theorem implEqEnt (f0 : Int) (f1 : Int) (L2 : List Dat) (A2 : Option Addr) (n2 c2 : Nat) (f3 : Int) (f4_0 : Int) (f4_1 : Int) (L5 : List Dat) (A5 : Option Addr) (n5 c5 : Nat) (L6 : List Dat) (A6 : Option Addr) (n6 c6 : Nat) (f7 : Int) (f8 : Int) (f9 : Int) (f10 : Int) (g0 : Int) (g1 : Int) (M2 : List Dat) (B2 : Option Addr) (m2 k2 : Nat) (g3 : Int) (g4_0 : Int) (g4_1 : Int) (M5 : List Dat) (B5 : Option Addr) (m5 k5 : Nat) (M6 : List Dat) (B6 : Option Addr) (m6 k6 : Nat) (g7 : Int) (g8 : Int) (g9 : Int) (g10 : Int) (w : World) (hl2 : Lies w (.l L2) [.slice A2 n2 c2]) (hr2 : Lies w (.l M2) [.slice B2 m2 k2]) (ht2 : ∀ x ∈ L2, Has tyValue x) (hu2 : ∀ x ∈ M2, Has tyValue x) (hn2 : n2 ≤ 1099511627776) (hl5 : Lies w (.l L5) [.slice A5 n5 c5]) (hr5 : Lies w (.l M5) [.slice B5 m5 k5]) (ht5 : ∀ x ∈ L5, Has tySent x) (hu5 : ∀ x ∈ M5, Has tySent x) (hn5 : (Dat.l L5).bulk ≤ 1099511627776) (hv5 : m5 ≤ 9223372036854775807) (hl6 : Lies w (.l L6) [.slice A6 n6 c6]) (hr6 : Lies w (.l M6) [.slice B6 m6 k6]) (ht6 : ∀ x ∈ L6, Has tyAsker x) (hu6 : ∀ x ∈ M6, Has tyAsker x) (hn6 : n6 ≤ 1099511627776) : Calls Try.prog 20 #[.agg #[.int .i64 f0, .int .i64 f1, .slice A2 n2 c2, .int .i64 f3, .int .i64 f4_0, .int .i64 f4_1, .slice A5 n5 c5, .slice A6 n6 c6, .int .i64 f7, .int .i64 f8, .int .i64 f9, .int .i64 f10], .agg #[.int .i64 g0, .int .i64 g1, .slice B2 m2 k2, .int .i64 g3, .int .i64 g4_0, .int .i64 g4_1, .slice B5 m5 k5, .slice B6 m6 k6, .int .i64 g7, .int .i64 g8, .int .i64 g9, .int .i64 g10]] w (GivesBool (eq1 (.r [.i f0, .i f1, .l L2, .i f3, .r [.i f4_0, .i f4_1], .l L5, .l L6, .i f7, .i f8, .i f9, .i f10]) (.r [.i g0, .i g1, .l M2, .i g3, .r [.i g4_0, .i g4_1], .l M5, .l M6, .i g7, .i g8, .i g9, .i g10])) w) := by
  have HL2 := Lib.hid hl2
  have HR2 := Lib.hid hr2
  have HT2 := Lib.hid ht2
  have HU2 := Lib.hid hu2
  clear hl2 hr2 ht2 hu2
  have HL5 := Lib.hid hl5
  have HR5 := Lib.hid hr5
  have HT5 := Lib.hid ht5
  have HU5 := Lib.hid hu5
  clear hl5 hr5 ht5 hu5
  have HL6 := Lib.hid hl6
  have HR6 := Lib.hid hr6
  have HT6 := Lib.hid ht6
  have HU6 := Lib.hid hu6
  clear hl6 hr6 ht6 hu6
  have X := ((Held.start w).push #[.int .i64 f0, .int .i64 f1, .slice A2 n2 c2, .int .i64 f3, .int .i64 f4_0, .int .i64 f4_1, .slice A5 n5 c5, .slice A6 n6 c6, .int .i64 f7, .int .i64 f8, .int .i64 f9, .int .i64 f10] 38).push #[.int .i64 g0, .int .i64 g1, .slice B2 m2 k2, .int .i64 g3, .int .i64 g4_0, .int .i64 g4_1, .slice B5 m5 k5, .slice B6 m6 k6, .int .i64 g7, .int .i64 g8, .int .i64 g9, .int .i64 g10] 38
  simp only [World.size_alloc] at X
  replace X := Lib.hid X
  by_cases e0 : f0 = g0
  · subst e0
    by_cases e1 : f1 = g1
    · subst e1
      by_cases e2 : L2 = M2
      · subst e2
        by_cases e3 : f3 = g3
        · subst e3
          by_cases e4_0 : f4_0 = g4_0
          · subst e4_0
            by_cases e4_1 : f4_1 = g4_1
            · subst e4_1
              by_cases e5 : L5 = M5
              · subst e5
                by_cases e6 : L6 = M6
                · subst e6
                  by_cases e7 : f7 = g7
                  · subst e7
                    by_cases e8 : f8 = g8
                    · subst e8
                      by_cases e9 : f9 = g9
                      · subst e9
                        by_cases e10 : f10 = g10
                        · subst e10
                          have HN := Lib.hid (eq1_yes (.r [.i f0, .i f1, .l L2, .i f3, .r [.i f4_0, .i f4_1], .l L5, .l L6, .i f7, .i f8, .i f9, .i f10])).symm
                          go_enter Try.func20, Try.ntmps20
                          go_wp2_with fail
                          refine (implEqVD (HL2.out.below X.out.1) (HR2.out.below X.out.1) HT2.out HU2.out hn2).mono ?_
                          rintro e w2 ⟨rfl, hb⟩
                          rw [eqD_yes]
                          replace X := Lib.hid (X.out.below hb)
                          clear hb
                          obtain ⟨x0, x1, x2, x3, x4, x5, x6, x7, x8, x9, x10, x11⟩ := (X.out.box (g := w.heap.size) (cs := [.int .i64 f0, .int .i64 f1, .slice A2 n2 c2, .int .i64 f3, .int .i64 f4_0, .int .i64 f4_1, .slice A5 n5 c5, .slice A6 n6 c6, .int .i64 f7, .int .i64 f8, .int .i64 f9, .int .i64 f10]) (by repeat (first | exact List.mem_cons_self | refine List.mem_cons_of_mem _ ?_))).c12
                          obtain ⟨y0, y1, y2, y3, y4, y5, y6, y7, y8, y9, y10, y11⟩ := (X.out.box (g := w.heap.size + 1) (cs := [.int .i64 f0, .int .i64 f1, .slice B2 m2 k2, .int .i64 f3, .int .i64 f4_0, .int .i64 f4_1, .slice B5 m5 k5, .slice B6 m6 k6, .int .i64 f7, .int .i64 f8, .int .i64 f9, .int .i64 f10]) (by repeat (first | exact List.mem_cons_self | refine List.mem_cons_of_mem _ ?_))).c12
                          go_wp2_with fail
                          refine (implEqSents _ _ A5 B5 n5 c5 m5 k5 _ (HL5.out.below X.out.1) (HR5.out.below X.out.1) HT5.out HU5.out hn5 hv5).mono ?_
                          rintro e w5 ⟨rfl, hb⟩
                          clear x0 y0 x1 y1 x2 y2 x3 y3 x4 y4 x5 y5 x6 y6 x7 y7 x8 y8 x9 y9 x10 y10 x11 y11
                          rw [eqD_yes]
                          replace X := Lib.hid (X.out.below hb)
                          clear hb
                          obtain ⟨x0, x1, x2, x3, x4, x5, x6, x7, x8, x9, x10, x11⟩ := (X.out.box (g := w.heap.size) (cs := [.int .i64 f0, .int .i64 f1, .slice A2 n2 c2, .int .i64 f3, .int .i64 f4_0, .int .i64 f4_1, .slice A5 n5 c5, .slice A6 n6 c6, .int .i64 f7, .int .i64 f8, .int .i64 f9, .int .i64 f10]) (by repeat (first | exact List.mem_cons_self | refine List.mem_cons_of_mem _ ?_))).c12
                          obtain ⟨y0, y1, y2, y3, y4, y5, y6, y7, y8, y9, y10, y11⟩ := (X.out.box (g := w.heap.size + 1) (cs := [.int .i64 f0, .int .i64 f1, .slice B2 m2 k2, .int .i64 f3, .int .i64 f4_0, .int .i64 f4_1, .slice B5 m5 k5, .slice B6 m6 k6, .int .i64 f7, .int .i64 f8, .int .i64 f9, .int .i64 f10]) (by repeat (first | exact List.mem_cons_self | refine List.mem_cons_of_mem _ ?_))).c12
                          go_wp2_with fail
                          refine (slEqAD (HL6.out.below X.out.1) (HR6.out.below X.out.1) HT6.out HU6.out hn6).mono ?_
                          rintro e w6 ⟨rfl, hb⟩
                          clear x0 y0 x1 y1 x2 y2 x3 y3 x4 y4 x5 y5 x6 y6 x7 y7 x8 y8 x9 y9 x10 y10 x11 y11
                          rw [eqD_yes]
                          replace X := Lib.hid (X.out.below hb)
                          clear hb
                          obtain ⟨x0, x1, x2, x3, x4, x5, x6, x7, x8, x9, x10, x11⟩ := (X.out.box (g := w.heap.size) (cs := [.int .i64 f0, .int .i64 f1, .slice A2 n2 c2, .int .i64 f3, .int .i64 f4_0, .int .i64 f4_1, .slice A5 n5 c5, .slice A6 n6 c6, .int .i64 f7, .int .i64 f8, .int .i64 f9, .int .i64 f10]) (by repeat (first | exact List.mem_cons_self | refine List.mem_cons_of_mem _ ?_))).c12
                          obtain ⟨y0, y1, y2, y3, y4, y5, y6, y7, y8, y9, y10, y11⟩ := (X.out.box (g := w.heap.size + 1) (cs := [.int .i64 f0, .int .i64 f1, .slice B2 m2 k2, .int .i64 f3, .int .i64 f4_0, .int .i64 f4_1, .slice B5 m5 k5, .slice B6 m6 k6, .int .i64 f7, .int .i64 f8, .int .i64 f9, .int .i64 f10]) (by repeat (first | exact List.mem_cons_self | refine List.mem_cons_of_mem _ ?_))).c12
                          go_wp2_with fail
                          go_ret
                          exact GivesBool.of HN.out X.out.1
                        · have HN : Hid (false = eq1 (.r [.i f0, .i f1, .l L2, .i f3, .r [.i f4_0, .i f4_1], .l L5, .l L6, .i f7, .i f8, .i f9, .i f10]) (.r [.i f0, .i f1, .l L2, .i f3, .r [.i f4_0, .i f4_1], .l L5, .l L6, .i f7, .i f8, .i f9, .i g10])) := Lib.hid (eq1_no (by simp [e10])).symm
                          have hb10 : (f10 == g10) = false := by simpa using e10
                          go_enter Try.func20, Try.ntmps20
                          go_wp2_with fail
                          refine (implEqVD (HL2.out.below X.out.1) (HR2.out.below X.out.1) HT2.out HU2.out hn2).mono ?_
                          rintro e w2 ⟨rfl, hb⟩
                          rw [eqD_yes]
                          replace X := Lib.hid (X.out.below hb)
                          clear hb
                          obtain ⟨x0, x1, x2, x3, x4, x5, x6, x7, x8, x9, x10, x11⟩ := (X.out.box (g := w.heap.size) (cs := [.int .i64 f0, .int .i64 f1, .slice A2 n2 c2, .int .i64 f3, .int .i64 f4_0, .int .i64 f4_1, .slice A5 n5 c5, .slice A6 n6 c6, .int .i64 f7, .int .i64 f8, .int .i64 f9, .int .i64 f10]) (by repeat (first | exact List.mem_cons_self | refine List.mem_cons_of_mem _ ?_))).c12
                          obtain ⟨y0, y1, y2, y3, y4, y5, y6, y7, y8, y9, y10, y11⟩ := (X.out.box (g := w.heap.size + 1) (cs := [.int .i64 f0, .int .i64 f1, .slice B2 m2 k2, .int .i64 f3, .int .i64 f4_0, .int .i64 f4_1, .slice B5 m5 k5, .slice B6 m6 k6, .int .i64 f7, .int .i64 f8, .int .i64 f9, .int .i64 g10]) (by repeat (first | exact List.mem_cons_self | refine List.mem_cons_of_mem _ ?_))).c12
                          go_wp2_with fail
                          refine (implEqSents _ _ A5 B5 n5 c5 m5 k5 _ (HL5.out.below X.out.1) (HR5.out.below X.out.1) HT5.out HU5.out hn5 hv5).mono ?_
                          rintro e w5 ⟨rfl, hb⟩
                          clear x0 y0 x1 y1 x2 y2 x3 y3 x4 y4 x5 y5 x6 y6 x7 y7 x8 y8 x9 y9 x10 y10 x11 y11
                          rw [eqD_yes]
                          replace X := Lib.hid (X.out.below hb)
                          clear hb
                          obtain ⟨x0, x1, x2, x3, x4, x5, x6, x7, x8, x9, x10, x11⟩ := (X.out.box (g := w.heap.size) (cs := [.int .i64 f0, .int .i64 f1, .slice A2 n2 c2, .int .i64 f3, .int .i64 f4_0, .int .i64 f4_1, .slice A5 n5 c5, .slice A6 n6 c6, .int .i64 f7, .int .i64 f8, .int .i64 f9, .int .i64 f10]) (by repeat (first | exact List.mem_cons_self | refine List.mem_cons_of_mem _ ?_))).c12
                          obtain ⟨y0, y1, y2, y3, y4, y5, y6, y7, y8, y9, y10, y11⟩ := (X.out.box (g := w.heap.size + 1) (cs := [.int .i64 f0, .int .i64 f1, .slice B2 m2 k2, .int .i64 f3, .int .i64 f4_0, .int .i64 f4_1, .slice B5 m5 k5, .slice B6 m6 k6, .int .i64 f7, .int .i64 f8, .int .i64 f9, .int .i64 g10]) (by repeat (first | exact List.mem_cons_self | refine List.mem_cons_of_mem _ ?_))).c12
                          go_wp2_with fail
                          refine (slEqAD (HL6.out.below X.out.1) (HR6.out.below X.out.1) HT6.out HU6.out hn6).mono ?_
                          rintro e w6 ⟨rfl, hb⟩
                          clear x0 y0 x1 y1 x2 y2 x3 y3 x4 y4 x5 y5 x6 y6 x7 y7 x8 y8 x9 y9 x10 y10 x11 y11
                          rw [eqD_yes]
                          replace X := Lib.hid (X.out.below hb)
                          clear hb
                          obtain ⟨x0, x1, x2, x3, x4, x5, x6, x7, x8, x9, x10, x11⟩ := (X.out.box (g := w.heap.size) (cs := [.int .i64 f0, .int .i64 f1, .slice A2 n2 c2, .int .i64 f3, .int .i64 f4_0, .int .i64 f4_1, .slice A5 n5 c5, .slice A6 n6 c6, .int .i64 f7, .int .i64 f8, .int .i64 f9, .int .i64 f10]) (by repeat (first | exact List.mem_cons_self | refine List.mem_cons_of_mem _ ?_))).c12
                          obtain ⟨y0, y1, y2, y3, y4, y5, y6, y7, y8, y9, y10, y11⟩ := (X.out.box (g := w.heap.size + 1) (cs := [.int .i64 f0, .int .i64 f1, .slice B2 m2 k2, .int .i64 f3, .int .i64 f4_0, .int .i64 f4_1, .slice B5 m5 k5, .slice B6 m6 k6, .int .i64 f7, .int .i64 f8, .int .i64 f9, .int .i64 g10]) (by repeat (first | exact List.mem_cons_self | refine List.mem_cons_of_mem _ ?_))).c12
                          go_wp2_with fail
                          go_ret
                          exact GivesBool.of HN.out X.out.1
                      · have HN : Hid (false = eq1 (.r [.i f0, .i f1, .l L2, .i f3, .r [.i f4_0, .i f4_1], .l L5, .l L6, .i f7, .i f8, .i f9, .i f10]) (.r [.i f0, .i f1, .l L2, .i f3, .r [.i f4_0, .i f4_1], .l L5, .l L6, .i f7, .i f8, .i g9, .i g10])) := Lib.hid (eq1_no (by simp [e9])).symm
                        have hb9 : (f9 == g9) = false := by simpa using e9
                        go_enter Try.func20, Try.ntmps20
                        go_wp2_with fail
                        refine (implEqVD (HL2.out.below X.out.1) (HR2.out.below X.out.1) HT2.out HU2.out hn2).mono ?_
                        rintro e w2 ⟨rfl, hb⟩
                        rw [eqD_yes]
                        replace X := Lib.hid (X.out.below hb)
                        clear hb
                        obtain ⟨x0, x1, x2, x3, x4, x5, x6, x7, x8, x9, x10, x11⟩ := (X.out.box (g := w.heap.size) (cs := [.int .i64 f0, .int .i64 f1, .slice A2 n2 c2, .int .i64 f3, .int .i64 f4_0, .int .i64 f4_1, .slice A5 n5 c5, .slice A6 n6 c6, .int .i64 f7, .int .i64 f8, .int .i64 f9, .int .i64 f10]) (by repeat (first | exact List.mem_cons_self | refine List.mem_cons_of_mem _ ?_))).c12
                        obtain ⟨y0, y1, y2, y3, y4, y5, y6, y7, y8, y9, y10, y11⟩ := (X.out.box (g := w.heap.size + 1) (cs := [.int .i64 f0, .int .i64 f1, .slice B2 m2 k2, .int .i64 f3, .int .i64 f4_0, .int .i64 f4_1, .slice B5 m5 k5, .slice B6 m6 k6, .int .i64 f7, .int .i64 f8, .int .i64 g9, .int .i64 g10]) (by repeat (first | exact List.mem_cons_self | refine List.mem_cons_of_mem _ ?_))).c12
                        go_wp2_with fail
                        refine (implEqSents _ _ A5 B5 n5 c5 m5 k5 _ (HL5.out.below X.out.1) (HR5.out.below X.out.1) HT5.out HU5.out hn5 hv5).mono ?_
                        rintro e w5 ⟨rfl, hb⟩
                        clear x0 y0 x1 y1 x2 y2 x3 y3 x4 y4 x5 y5 x6 y6 x7 y7 x8 y8 x9 y9 x10 y10 x11 y11
                        rw [eqD_yes]
                        replace X := Lib.hid (X.out.below hb)
                        clear hb
                        obtain ⟨x0, x1, x2, x3, x4, x5, x6, x7, x8, x9, x10, x11⟩ := (X.out.box (g := w.heap.size) (cs := [.int .i64 f0, .int .i64 f1, .slice A2 n2 c2, .int .i64 f3, .int .i64 f4_0, .int .i64 f4_1, .slice A5 n5 c5, .slice A6 n6 c6, .int .i64 f7, .int .i64 f8, .int .i64 f9, .int .i64 f10]) (by repeat (first | exact List.mem_cons_self | refine List.mem_cons_of_mem _ ?_))).c12
                        obtain ⟨y0, y1, y2, y3, y4, y5, y6, y7, y8, y9, y10, y11⟩ := (X.out.box (g := w.heap.size + 1) (cs := [.int .i64 f0, .int .i64 f1, .slice B2 m2 k2, .int .i64 f3, .int .i64 f4_0, .int .i64 f4_1, .slice B5 m5 k5, .slice B6 m6 k6, .int .i64 f7, .int .i64 f8, .int .i64 g9, .int .i64 g10]) (by repeat (first | exact List.mem_cons_self | refine List.mem_cons_of_mem _ ?_))).c12
                        go_wp2_with fail
                        refine (slEqAD (HL6.out.below X.out.1) (HR6.out.below X.out.1) HT6.out HU6.out hn6).mono ?_
                        rintro e w6 ⟨rfl, hb⟩
                        clear x0 y0 x1 y1 x2 y2 x3 y3 x4 y4 x5 y5 x6 y6 x7 y7 x8 y8 x9 y9 x10 y10 x11 y11
                        rw [eqD_yes]
                        replace X := Lib.hid (X.out.below hb)
                        clear hb
                        obtain ⟨x0, x1, x2, x3, x4, x5, x6, x7, x8, x9, x10, x11⟩ := (X.out.box (g := w.heap.size) (cs := [.int .i64 f0, .int .i64 f1, .slice A2 n2 c2, .int .i64 f3, .int .i64 f4_0, .int .i64 f4_1, .slice A5 n5 c5, .slice A6 n6 c6, .int .i64 f7, .int .i64 f8, .int .i64 f9, .int .i64 f10]) (by repeat (first | exact List.mem_cons_self | refine List.mem_cons_of_mem _ ?_))).c12
                        obtain ⟨y0, y1, y2, y3, y4, y5, y6, y7, y8, y9, y10, y11⟩ := (X.out.box (g := w.heap.size + 1) (cs := [.int .i64 f0, .int .i64 f1, .slice B2 m2 k2, .int .i64 f3, .int .i64 f4_0, .int .i64 f4_1, .slice B5 m5 k5, .slice B6 m6 k6, .int .i64 f7, .int .i64 f8, .int .i64 g9, .int .i64 g10]) (by repeat (first | exact List.mem_cons_self | refine List.mem_cons_of_mem _ ?_))).c12
                        go_wp2_with fail
                        go_ret
                        exact GivesBool.of HN.out X.out.1
                    · have HN : Hid (false = eq1 (.r [.i f0, .i f1, .l L2, .i f3, .r [.i f4_0, .i f4_1], .l L5, .l L6, .i f7, .i f8, .i f9, .i f10]) (.r [.i f0, .i f1, .l L2, .i f3, .r [.i f4_0, .i f4_1], .l L5, .l L6, .i f7, .i g8, .i g9, .i g10])) := Lib.hid (eq1_no (by simp [e8])).symm
                      have hb8 : (f8 == g8) = false := by simpa using e8
                      go_enter Try.func20, Try.ntmps20
                      go_wp2_with fail
                      refine (implEqVD (HL2.out.below X.out.1) (HR2.out.below X.out.1) HT2.out HU2.out hn2).mono ?_
                      rintro e w2 ⟨rfl, hb⟩
                      rw [eqD_yes]
                      replace X := Lib.hid (X.out.below hb)
                      clear hb
                      obtain ⟨x0, x1, x2, x3, x4, x5, x6, x7, x8, x9, x10, x11⟩ := (X.out.box (g := w.heap.size) (cs := [.int .i64 f0, .int .i64 f1, .slice A2 n2 c2, .int .i64 f3, .int .i64 f4_0, .int .i64 f4_1, .slice A5 n5 c5, .slice A6 n6 c6, .int .i64 f7, .int .i64 f8, .int .i64 f9, .int .i64 f10]) (by repeat (first | exact List.mem_cons_self | refine List.mem_cons_of_mem _ ?_))).c12
                      obtain ⟨y0, y1, y2, y3, y4, y5, y6, y7, y8, y9, y10, y11⟩ := (X.out.box (g := w.heap.size + 1) (cs := [.int .i64 f0, .int .i64 f1, .slice B2 m2 k2, .int .i64 f3, .int .i64 f4_0, .int .i64 f4_1, .slice B5 m5 k5, .slice B6 m6 k6, .int .i64 f7, .int .i64 g8, .int .i64 g9, .int .i64 g10]) (by repeat (first | exact List.mem_cons_self | refine List.mem_cons_of_mem _ ?_))).c12
                      go_wp2_with fail
                      refine (implEqSents _ _ A5 B5 n5 c5 m5 k5 _ (HL5.out.below X.out.1) (HR5.out.below X.out.1) HT5.out HU5.out hn5 hv5).mono ?_
                      rintro e w5 ⟨rfl, hb⟩
                      clear x0 y0 x1 y1 x2 y2 x3 y3 x4 y4 x5 y5 x6 y6 x7 y7 x8 y8 x9 y9 x10 y10 x11 y11
                      rw [eqD_yes]
                      replace X := Lib.hid (X.out.below hb)
                      clear hb
                      obtain ⟨x0, x1, x2, x3, x4, x5, x6, x7, x8, x9, x10, x11⟩ := (X.out.box (g := w.heap.size) (cs := [.int .i64 f0, .int .i64 f1, .slice A2 n2 c2, .int .i64 f3, .int .i64 f4_0, .int .i64 f4_1, .slice A5 n5 c5, .slice A6 n6 c6, .int .i64 f7, .int .i64 f8, .int .i64 f9, .int .i64 f10]) (by repeat (first | exact List.mem_cons_self | refine List.mem_cons_of_mem _ ?_))).c12
                      obtain ⟨y0, y1, y2, y3, y4, y5, y6, y7, y8, y9, y10, y11⟩ := (X.out.box (g := w.heap.size + 1) (cs := [.int .i64 f0, .int .i64 f1, .slice B2 m2 k2, .int .i64 f3, .int .i64 f4_0, .int .i64 f4_1, .slice B5 m5 k5, .slice B6 m6 k6, .int .i64 f7, .int .i64 g8, .int .i64 g9, .int .i64 g10]) (by repeat (first | exact List.mem_cons_self | refine List.mem_cons_of_mem _ ?_))).c12
                      go_wp2_with fail
                      refine (slEqAD (HL6.out.below X.out.1) (HR6.out.below X.out.1) HT6.out HU6.out hn6).mono ?_
                      rintro e w6 ⟨rfl, hb⟩
                      clear x0 y0 x1 y1 x2 y2 x3 y3 x4 y4 x5 y5 x6 y6 x7 y7 x8 y8 x9 y9 x10 y10 x11 y11
                      rw [eqD_yes]
                      replace X := Lib.hid (X.out.below hb)
                      clear hb
                      obtain ⟨x0, x1, x2, x3, x4, x5, x6, x7, x8, x9, x10, x11⟩ := (X.out.box (g := w.heap.size) (cs := [.int .i64 f0, .int .i64 f1, .slice A2 n2 c2, .int .i64 f3, .int .i64 f4_0, .int .i64 f4_1, .slice A5 n5 c5, .slice A6 n6 c6, .int .i64 f7, .int .i64 f8, .int .i64 f9, .int .i64 f10]) (by repeat (first | exact List.mem_cons_self | refine List.mem_cons_of_mem _ ?_))).c12
                      obtain ⟨y0, y1, y2, y3, y4, y5, y6, y7, y8, y9, y10, y11⟩ := (X.out.box (g := w.heap.size + 1) (cs := [.int .i64 f0, .int .i64 f1, .slice B2 m2 k2, .int .i64 f3, .int .i64 f4_0, .int .i64 f4_1, .slice B5 m5 k5, .slice B6 m6 k6, .int .i64 f7, .int .i64 g8, .int .i64 g9, .int .i64 g10]) (by repeat (first | exact List.mem_cons_self | refine List.mem_cons_of_mem _ ?_))).c12
                      go_wp2_with fail
                      go_ret
                      exact GivesBool.of HN.out X.out.1
                  · have HN : Hid (false = eq1 (.r [.i f0, .i f1, .l L2, .i f3, .r [.i f4_0, .i f4_1], .l L5, .l L6, .i f7, .i f8, .i f9, .i f10]) (.r [.i f0, .i f1, .l L2, .i f3, .r [.i f4_0, .i f4_1], .l L5, .l L6, .i g7, .i g8, .i g9, .i g10])) := Lib.hid (eq1_no (by simp [e7])).symm
                    have hb7 : (f7 == g7) = false := by simpa using e7
                    go_enter Try.func20, Try.ntmps20
                    go_wp2_with fail
                    refine (implEqVD (HL2.out.below X.out.1) (HR2.out.below X.out.1) HT2.out HU2.out hn2).mono ?_
                    rintro e w2 ⟨rfl, hb⟩
                    rw [eqD_yes]
                    replace X := Lib.hid (X.out.below hb)
                    clear hb
                    obtain ⟨x0, x1, x2, x3, x4, x5, x6, x7, x8, x9, x10, x11⟩ := (X.out.box (g := w.heap.size) (cs := [.int .i64 f0, .int .i64 f1, .slice A2 n2 c2, .int .i64 f3, .int .i64 f4_0, .int .i64 f4_1, .slice A5 n5 c5, .slice A6 n6 c6, .int .i64 f7, .int .i64 f8, .int .i64 f9, .int .i64 f10]) (by repeat (first | exact List.mem_cons_self | refine List.mem_cons_of_mem _ ?_))).c12
                    obtain ⟨y0, y1, y2, y3, y4, y5, y6, y7, y8, y9, y10, y11⟩ := (X.out.box (g := w.heap.size + 1) (cs := [.int .i64 f0, .int .i64 f1, .slice B2 m2 k2, .int .i64 f3, .int .i64 f4_0, .int .i64 f4_1, .slice B5 m5 k5, .slice B6 m6 k6, .int .i64 g7, .int .i64 g8, .int .i64 g9, .int .i64 g10]) (by repeat (first | exact List.mem_cons_self | refine List.mem_cons_of_mem _ ?_))).c12
                    go_wp2_with fail
                    refine (implEqSents _ _ A5 B5 n5 c5 m5 k5 _ (HL5.out.below X.out.1) (HR5.out.below X.out.1) HT5.out HU5.out hn5 hv5).mono ?_
                    rintro e w5 ⟨rfl, hb⟩
                    clear x0 y0 x1 y1 x2 y2 x3 y3 x4 y4 x5 y5 x6 y6 x7 y7 x8 y8 x9 y9 x10 y10 x11 y11
                    rw [eqD_yes]
                    replace X := Lib.hid (X.out.below hb)
                    clear hb
                    obtain ⟨x0, x1, x2, x3, x4, x5, x6, x7, x8, x9, x10, x11⟩ := (X.out.box (g := w.heap.size) (cs := [.int .i64 f0, .int .i64 f1, .slice A2 n2 c2, .int .i64 f3, .int .i64 f4_0, .int .i64 f4_1, .slice A5 n5 c5, .slice A6 n6 c6, .int .i64 f7, .int .i64 f8, .int .i64 f9, .int .i64 f10]) (by repeat (first | exact List.mem_cons_self | refine List.mem_cons_of_mem _ ?_))).c12
                    obtain ⟨y0, y1, y2, y3, y4, y5, y6, y7, y8, y9, y10, y11⟩ := (X.out.box (g := w.heap.size + 1) (cs := [.int .i64 f0, .int .i64 f1, .slice B2 m2 k2, .int .i64 f3, .int .i64 f4_0, .int .i64 f4_1, .slice B5 m5 k5, .slice B6 m6 k6, .int .i64 g7, .int .i64 g8, .int .i64 g9, .int .i64 g10]) (by repeat (first | exact List.mem_cons_self | refine List.mem_cons_of_mem _ ?_))).c12
                    go_wp2_with fail
                    refine (slEqAD (HL6.out.below X.out.1) (HR6.out.below X.out.1) HT6.out HU6.out hn6).mono ?_
                    rintro e w6 ⟨rfl, hb⟩
                    clear x0 y0 x1 y1 x2 y2 x3 y3 x4 y4 x5 y5 x6 y6 x7 y7 x8 y8 x9 y9 x10 y10 x11 y11
                    rw [eqD_yes]
                    replace X := Lib.hid (X.out.below hb)
                    clear hb
                    obtain ⟨x0, x1, x2, x3, x4, x5, x6, x7, x8, x9, x10, x11⟩ := (X.out.box (g := w.heap.size) (cs := [.int .i64 f0, .int .i64 f1, .slice A2 n2 c2, .int .i64 f3, .int .i64 f4_0, .int .i64 f4_1, .slice A5 n5 c5, .slice A6 n6 c6, .int .i64 f7, .int .i64 f8, .int .i64 f9, .int .i64 f10]) (by repeat (first | exact List.mem_cons_self | refine List.mem_cons_of_mem _ ?_))).c12
                    obtain ⟨y0, y1, y2, y3, y4, y5, y6, y7, y8, y9, y10, y11⟩ := (X.out.box (g := w.heap.size + 1) (cs := [.int .i64 f0, .int .i64 f1, .slice B2 m2 k2, .int .i64 f3, .int .i64 f4_0, .int .i64 f4_1, .slice B5 m5 k5, .slice B6 m6 k6, .int .i64 g7, .int .i64 g8, .int .i64 g9, .int .i64 g10]) (by repeat (first | exact List.mem_cons_self | refine List.mem_cons_of_mem _ ?_))).c12
                    go_wp2_with fail
                    go_ret
                    exact GivesBool.of HN.out X.out.1
                · have HN : Hid (false = eq1 (.r [.i f0, .i f1, .l L2, .i f3, .r [.i f4_0, .i f4_1], .l L5, .l L6, .i f7, .i f8, .i f9, .i f10]) (.r [.i f0, .i f1, .l L2, .i f3, .r [.i f4_0, .i f4_1], .l L5, .l M6, .i g7, .i g8, .i g9, .i g10])) := Lib.hid (eq1_no (by simp [e6])).symm
                  have HE6 := Lib.hid (eqD_no e6)
                  clear e6
                  go_enter Try.func20, Try.ntmps20
                  go_wp2_with fail
                  refine (implEqVD (HL2.out.below X.out.1) (HR2.out.below X.out.1) HT2.out HU2.out hn2).mono ?_
                  rintro e w2 ⟨rfl, hb⟩
                  rw [eqD_yes]
                  replace X := Lib.hid (X.out.below hb)
                  clear hb
                  obtain ⟨x0, x1, x2, x3, x4, x5, x6, x7, x8, x9, x10, x11⟩ := (X.out.box (g := w.heap.size) (cs := [.int .i64 f0, .int .i64 f1, .slice A2 n2 c2, .int .i64 f3, .int .i64 f4_0, .int .i64 f4_1, .slice A5 n5 c5, .slice A6 n6 c6, .int .i64 f7, .int .i64 f8, .int .i64 f9, .int .i64 f10]) (by repeat (first | exact List.mem_cons_self | refine List.mem_cons_of_mem _ ?_))).c12
                  obtain ⟨y0, y1, y2, y3, y4, y5, y6, y7, y8, y9, y10, y11⟩ := (X.out.box (g := w.heap.size + 1) (cs := [.int .i64 f0, .int .i64 f1, .slice B2 m2 k2, .int .i64 f3, .int .i64 f4_0, .int .i64 f4_1, .slice B5 m5 k5, .slice B6 m6 k6, .int .i64 g7, .int .i64 g8, .int .i64 g9, .int .i64 g10]) (by repeat (first | exact List.mem_cons_self | refine List.mem_cons_of_mem _ ?_))).c12
                  go_wp2_with fail
                  refine (implEqSents _ _ A5 B5 n5 c5 m5 k5 _ (HL5.out.below X.out.1) (HR5.out.below X.out.1) HT5.out HU5.out hn5 hv5).mono ?_
                  rintro e w5 ⟨rfl, hb⟩
                  clear x0 y0 x1 y1 x2 y2 x3 y3 x4 y4 x5 y5 x6 y6 x7 y7 x8 y8 x9 y9 x10 y10 x11 y11
                  rw [eqD_yes]
                  replace X := Lib.hid (X.out.below hb)
                  clear hb
                  obtain ⟨x0, x1, x2, x3, x4, x5, x6, x7, x8, x9, x10, x11⟩ := (X.out.box (g := w.heap.size) (cs := [.int .i64 f0, .int .i64 f1, .slice A2 n2 c2, .int .i64 f3, .int .i64 f4_0, .int .i64 f4_1, .slice A5 n5 c5, .slice A6 n6 c6, .int .i64 f7, .int .i64 f8, .int .i64 f9, .int .i64 f10]) (by repeat (first | exact List.mem_cons_self | refine List.mem_cons_of_mem _ ?_))).c12
                  obtain ⟨y0, y1, y2, y3, y4, y5, y6, y7, y8, y9, y10, y11⟩ := (X.out.box (g := w.heap.size + 1) (cs := [.int .i64 f0, .int .i64 f1, .slice B2 m2 k2, .int .i64 f3, .int .i64 f4_0, .int .i64 f4_1, .slice B5 m5 k5, .slice B6 m6 k6, .int .i64 g7, .int .i64 g8, .int .i64 g9, .int .i64 g10]) (by repeat (first | exact List.mem_cons_self | refine List.mem_cons_of_mem _ ?_))).c12
                  go_wp2_with fail
                  refine (slEqAD (HL6.out.below X.out.1) (HR6.out.below X.out.1) HT6.out HU6.out hn6).mono ?_
                  rintro e w6 ⟨rfl, hb⟩
                  clear x0 y0 x1 y1 x2 y2 x3 y3 x4 y4 x5 y5 x6 y6 x7 y7 x8 y8 x9 y9 x10 y10 x11 y11
                  rw [HE6.out]
                  replace X := Lib.hid (X.out.below hb)
                  clear hb
                  obtain ⟨x0, x1, x2, x3, x4, x5, x6, x7, x8, x9, x10, x11⟩ := (X.out.box (g := w.heap.size) (cs := [.int .i64 f0, .int .i64 f1, .slice A2 n2 c2, .int .i64 f3, .int .i64 f4_0, .int .i64 f4_1, .slice A5 n5 c5, .slice A6 n6 c6, .int .i64 f7, .int .i64 f8, .int .i64 f9, .int .i64 f10]) (by repeat (first | exact List.mem_cons_self | refine List.mem_cons_of_mem _ ?_))).c12
                  obtain ⟨y0, y1, y2, y3, y4, y5, y6, y7, y8, y9, y10, y11⟩ := (X.out.box (g := w.heap.size + 1) (cs := [.int .i64 f0, .int .i64 f1, .slice B2 m2 k2, .int .i64 f3, .int .i64 f4_0, .int .i64 f4_1, .slice B5 m5 k5, .slice B6 m6 k6, .int .i64 g7, .int .i64 g8, .int .i64 g9, .int .i64 g10]) (by repeat (first | exact List.mem_cons_self | refine List.mem_cons_of_mem _ ?_))).c12
                  go_wp2_with fail
                  go_ret
                  exact GivesBool.of HN.out X.out.1
              · have HN : Hid (false = eq1 (.r [.i f0, .i f1, .l L2, .i f3, .r [.i f4_0, .i f4_1], .l L5, .l L6, .i f7, .i f8, .i f9, .i f10]) (.r [.i f0, .i f1, .l L2, .i f3, .r [.i f4_0, .i f4_1], .l M5, .l M6, .i g7, .i g8, .i g9, .i g10])) := Lib.hid (eq1_no (by simp [e5])).symm
                have HE5 := Lib.hid (eqD_no e5)
                clear e5
                go_enter Try.func20, Try.ntmps20
                go_wp2_with fail
                refine (implEqVD (HL2.out.below X.out.1) (HR2.out.below X.out.1) HT2.out HU2.out hn2).mono ?_
                rintro e w2 ⟨rfl, hb⟩
                rw [eqD_yes]
                replace X := Lib.hid (X.out.below hb)
                clear hb
                obtain ⟨x0, x1, x2, x3, x4, x5, x6, x7, x8, x9, x10, x11⟩ := (X.out.box (g := w.heap.size) (cs := [.int .i64 f0, .int .i64 f1, .slice A2 n2 c2, .int .i64 f3, .int .i64 f4_0, .int .i64 f4_1, .slice A5 n5 c5, .slice A6 n6 c6, .int .i64 f7, .int .i64 f8, .int .i64 f9, .int .i64 f10]) (by repeat (first | exact List.mem_cons_self | refine List.mem_cons_of_mem _ ?_))).c12
                obtain ⟨y0, y1, y2, y3, y4, y5, y6, y7, y8, y9, y10, y11⟩ := (X.out.box (g := w.heap.size + 1) (cs := [.int .i64 f0, .int .i64 f1, .slice B2 m2 k2, .int .i64 f3, .int .i64 f4_0, .int .i64 f4_1, .slice B5 m5 k5, .slice B6 m6 k6, .int .i64 g7, .int .i64 g8, .int .i64 g9, .int .i64 g10]) (by repeat (first | exact List.mem_cons_self | refine List.mem_cons_of_mem _ ?_))).c12
                go_wp2_with fail
                refine (implEqSents _ _ A5 B5 n5 c5 m5 k5 _ (HL5.out.below X.out.1) (HR5.out.below X.out.1) HT5.out HU5.out hn5 hv5).mono ?_
                rintro e w5 ⟨rfl, hb⟩
                clear x0 y0 x1 y1 x2 y2 x3 y3 x4 y4 x5 y5 x6 y6 x7 y7 x8 y8 x9 y9 x10 y10 x11 y11
                rw [HE5.out]
                replace X := Lib.hid (X.out.below hb)
                clear hb
                obtain ⟨x0, x1, x2, x3, x4, x5, x6, x7, x8, x9, x10, x11⟩ := (X.out.box (g := w.heap.size) (cs := [.int .i64 f0, .int .i64 f1, .slice A2 n2 c2, .int .i64 f3, .int .i64 f4_0, .int .i64 f4_1, .slice A5 n5 c5, .slice A6 n6 c6, .int .i64 f7, .int .i64 f8, .int .i64 f9, .int .i64 f10]) (by repeat (first | exact List.mem_cons_self | refine List.mem_cons_of_mem _ ?_))).c12
                obtain ⟨y0, y1, y2, y3, y4, y5, y6, y7, y8, y9, y10, y11⟩ := (X.out.box (g := w.heap.size + 1) (cs := [.int .i64 f0, .int .i64 f1, .slice B2 m2 k2, .int .i64 f3, .int .i64 f4_0, .int .i64 f4_1, .slice B5 m5 k5, .slice B6 m6 k6, .int .i64 g7, .int .i64 g8, .int .i64 g9, .int .i64 g10]) (by repeat (first | exact List.mem_cons_self | refine List.mem_cons_of_mem _ ?_))).c12
                go_wp2_with fail
                go_ret
                exact GivesBool.of HN.out X.out.1
            · have HN : Hid (false = eq1 (.r [.i f0, .i f1, .l L2, .i f3, .r [.i f4_0, .i f4_1], .l L5, .l L6, .i f7, .i f8, .i f9, .i f10]) (.r [.i f0, .i f1, .l L2, .i f3, .r [.i f4_0, .i g4_1], .l M5, .l M6, .i g7, .i g8, .i g9, .i g10])) := Lib.hid (eq1_no (by simp [e4_1])).symm
              have hb4_1 : (f4_1 == g4_1) = false := by simpa using e4_1
              go_enter Try.func20, Try.ntmps20
              go_wp2_with fail
              refine (implEqVD (HL2.out.below X.out.1) (HR2.out.below X.out.1) HT2.out HU2.out hn2).mono ?_
              rintro e w2 ⟨rfl, hb⟩
              rw [eqD_yes]
              replace X := Lib.hid (X.out.below hb)
              clear hb
              obtain ⟨x0, x1, x2, x3, x4, x5, x6, x7, x8, x9, x10, x11⟩ := (X.out.box (g := w.heap.size) (cs := [.int .i64 f0, .int .i64 f1, .slice A2 n2 c2, .int .i64 f3, .int .i64 f4_0, .int .i64 f4_1, .slice A5 n5 c5, .slice A6 n6 c6, .int .i64 f7, .int .i64 f8, .int .i64 f9, .int .i64 f10]) (by repeat (first | exact List.mem_cons_self | refine List.mem_cons_of_mem _ ?_))).c12
              obtain ⟨y0, y1, y2, y3, y4, y5, y6, y7, y8, y9, y10, y11⟩ := (X.out.box (g := w.heap.size + 1) (cs := [.int .i64 f0, .int .i64 f1, .slice B2 m2 k2, .int .i64 f3, .int .i64 f4_0, .int .i64 g4_1, .slice B5 m5 k5, .slice B6 m6 k6, .int .i64 g7, .int .i64 g8, .int .i64 g9, .int .i64 g10]) (by repeat (first | exact List.mem_cons_self | refine List.mem_cons_of_mem _ ?_))).c12
              go_wp2_with fail
              go_ret
              exact GivesBool.of HN.out X.out.1
          · have HN : Hid (false = eq1 (.r [.i f0, .i f1, .l L2, .i f3, .r [.i f4_0, .i f4_1], .l L5, .l L6, .i f7, .i f8, .i f9, .i f10]) (.r [.i f0, .i f1, .l L2, .i f3, .r [.i g4_0, .i g4_1], .l M5, .l M6, .i g7, .i g8, .i g9, .i g10])) := Lib.hid (eq1_no (by simp [e4_0])).symm
            have hb4_0 : (f4_0 == g4_0) = false := by simpa using e4_0
            go_enter Try.func20, Try.ntmps20
            go_wp2_with fail
            refine (implEqVD (HL2.out.below X.out.1) (HR2.out.below X.out.1) HT2.out HU2.out hn2).mono ?_
            rintro e w2 ⟨rfl, hb⟩
            rw [eqD_yes]
            replace X := Lib.hid (X.out.below hb)
            clear hb
            obtain ⟨x0, x1, x2, x3, x4, x5, x6, x7, x8, x9, x10, x11⟩ := (X.out.box (g := w.heap.size) (cs := [.int .i64 f0, .int .i64 f1, .slice A2 n2 c2, .int .i64 f3, .int .i64 f4_0, .int .i64 f4_1, .slice A5 n5 c5, .slice A6 n6 c6, .int .i64 f7, .int .i64 f8, .int .i64 f9, .int .i64 f10]) (by repeat (first | exact List.mem_cons_self | refine List.mem_cons_of_mem _ ?_))).c12
            obtain ⟨y0, y1, y2, y3, y4, y5, y6, y7, y8, y9, y10, y11⟩ := (X.out.box (g := w.heap.size + 1) (cs := [.int .i64 f0, .int .i64 f1, .slice B2 m2 k2, .int .i64 f3, .int .i64 g4_0, .int .i64 g4_1, .slice B5 m5 k5, .slice B6 m6 k6, .int .i64 g7, .int .i64 g8, .int .i64 g9, .int .i64 g10]) (by repeat (first | exact List.mem_cons_self | refine List.mem_cons_of_mem _ ?_))).c12
            go_wp2_with fail
            go_ret
            exact GivesBool.of HN.out X.out.1
        · have HN : Hid (false = eq1 (.r [.i f0, .i f1, .l L2, .i f3, .r [.i f4_0, .i f4_1], .l L5, .l L6, .i f7, .i f8, .i f9, .i f10]) (.r [.i f0, .i f1, .l L2, .i g3, .r [.i g4_0, .i g4_1], .l M5, .l M6, .i g7, .i g8, .i g9, .i g10])) := Lib.hid (eq1_no (by simp [e3])).symm
          have hb3 : (f3 == g3) = false := by simpa using e3
          go_enter Try.func20, Try.ntmps20
          go_wp2_with fail
          refine (implEqVD (HL2.out.below X.out.1) (HR2.out.below X.out.1) HT2.out HU2.out hn2).mono ?_
          rintro e w2 ⟨rfl, hb⟩
          rw [eqD_yes]
          replace X := Lib.hid (X.out.below hb)
          clear hb
          obtain ⟨x0, x1, x2, x3, x4, x5, x6, x7, x8, x9, x10, x11⟩ := (X.out.box (g := w.heap.size) (cs := [.int .i64 f0, .int .i64 f1, .slice A2 n2 c2, .int .i64 f3, .int .i64 f4_0, .int .i64 f4_1, .slice A5 n5 c5, .slice A6 n6 c6, .int .i64 f7, .int .i64 f8, .int .i64 f9, .int .i64 f10]) (by repeat (first | exact List.mem_cons_self | refine List.mem_cons_of_mem _ ?_))).c12
          obtain ⟨y0, y1, y2, y3, y4, y5, y6, y7, y8, y9, y10, y11⟩ := (X.out.box (g := w.heap.size + 1) (cs := [.int .i64 f0, .int .i64 f1, .slice B2 m2 k2, .int .i64 g3, .int .i64 g4_0, .int .i64 g4_1, .slice B5 m5 k5, .slice B6 m6 k6, .int .i64 g7, .int .i64 g8, .int .i64 g9, .int .i64 g10]) (by repeat (first | exact List.mem_cons_self | refine List.mem_cons_of_mem _ ?_))).c12
          go_wp2_with fail
          go_ret
          exact GivesBool.of HN.out X.out.1
      · have HN : Hid (false = eq1 (.r [.i f0, .i f1, .l L2, .i f3, .r [.i f4_0, .i f4_1], .l L5, .l L6, .i f7, .i f8, .i f9, .i f10]) (.r [.i f0, .i f1, .l M2, .i g3, .r [.i g4_0, .i g4_1], .l M5, .l M6, .i g7, .i g8, .i g9, .i g10])) := Lib.hid (eq1_no (by simp [e2])).symm
        have HE2 := Lib.hid (eqD_no e2)
        clear e2
        go_enter Try.func20, Try.ntmps20
        go_wp2_with fail
        refine (implEqVD (HL2.out.below X.out.1) (HR2.out.below X.out.1) HT2.out HU2.out hn2).mono ?_
        rintro e w2 ⟨rfl, hb⟩
        rw [HE2.out]
        replace X := Lib.hid (X.out.below hb)
        clear hb
        obtain ⟨x0, x1, x2, x3, x4, x5, x6, x7, x8, x9, x10, x11⟩ := (X.out.box (g := w.heap.size) (cs := [.int .i64 f0, .int .i64 f1, .slice A2 n2 c2, .int .i64 f3, .int .i64 f4_0, .int .i64 f4_1, .slice A5 n5 c5, .slice A6 n6 c6, .int .i64 f7, .int .i64 f8, .int .i64 f9, .int .i64 f10]) (by repeat (first | exact List.mem_cons_self | refine List.mem_cons_of_mem _ ?_))).c12
        obtain ⟨y0, y1, y2, y3, y4, y5, y6, y7, y8, y9, y10, y11⟩ := (X.out.box (g := w.heap.size + 1) (cs := [.int .i64 f0, .int .i64 f1, .slice B2 m2 k2, .int .i64 g3, .int .i64 g4_0, .int .i64 g4_1, .slice B5 m5 k5, .slice B6 m6 k6, .int .i64 g7, .int .i64 g8, .int .i64 g9, .int .i64 g10]) (by repeat (first | exact List.mem_cons_self | refine List.mem_cons_of_mem _ ?_))).c12
        go_wp2_with fail
        go_ret
        exact GivesBool.of HN.out X.out.1
    · have HN : Hid (false = eq1 (.r [.i f0, .i f1, .l L2, .i f3, .r [.i f4_0, .i f4_1], .l L5, .l L6, .i f7, .i f8, .i f9, .i f10]) (.r [.i f0, .i g1, .l M2, .i g3, .r [.i g4_0, .i g4_1], .l M5, .l M6, .i g7, .i g8, .i g9, .i g10])) := Lib.hid (eq1_no (by simp [e1])).symm
      have hb1 : (f1 == g1) = false := by simpa using e1
      go_enter Try.func20, Try.ntmps20
      go_wp2_with fail
      go_ret
      exact GivesBool.of HN.out X.out.1
  · have HN : Hid (false = eq1 (.r [.i f0, .i f1, .l L2, .i f3, .r [.i f4_0, .i f4_1], .l L5, .l L6, .i f7, .i f8, .i f9, .i f10]) (.r [.i g0, .i g1, .l M2, .i g3, .r [.i g4_0, .i g4_1], .l M5, .l M6, .i g7, .i g8, .i g9, .i g10])) := Lib.hid (eq1_no (by simp [e0])).symm
    have hb0 : (f0 == g0) = false := by simpa using e0
    go_enter Try.func20, Try.ntmps20
    go_wp2_with fail
    go_ret
    exact GivesBool.of HN.out X.out.1
end Go.Proofs.Ytmeacgpebpfpbaa
