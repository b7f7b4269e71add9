/- Chapter 12: EqualVats, the program's. -/
import Derived.Test.YtmeacgpebpfpbaaLokB
import Derived.Test.YtmeacgpebpfpbaaEqVA
import Derived.Test.YtmeacgpebpfpbaaSentI
import Derived.Deep.RegionHeld3
import Derived.Deep.RegionLaw
import Derived.Deep.Cut
import Derived.LoopTactic
import Derived.Lib.Hide
import Derived.Deep.QuietTactic
import Derived.BigQuiet
import Derived.Deep.RegionWith
import Derived.Handy
namespace Go.Proofs.Ytmeacgpebpfpbaa
open Go.RowKit
set_option linter.unusedVariables false
set_option linter.unusedSimpArgs false
set_option maxRecDepth 100000 in
set_option maxHeartbeats 16000000 in
theorem implEqVat (f0 : Int) (L1 : List Dat) (A1 : Option Addr) (n1 c1 : Nat) (L2 : List Dat) (A2 : Option Addr) (n2 c2 : Nat) (L3 : List Dat) (A3 : Option Addr) (n3 c3 : Nat) (L4 : List Dat) (A4 : Option Addr) (n4 c4 : Nat) (g0 : Int) (M1 : List Dat) (B1 : Option Addr) (m1 k1 : Nat) (M2 : List Dat) (B2 : Option Addr) (m2 k2 : Nat) (M3 : List Dat) (B3 : Option Addr) (m3 k3 : Nat) (M4 : List Dat) (B4 : Option Addr) (m4 k4 : Nat) (w : World) (hl1 : Lies w (.l L1) [.slice A1 n1 c1]) (hr1 : Lies w (.l M1) [.slice B1 m1 k1]) (ht1 : ∀ x ∈ L1, Has tyEntity x) (hu1 : ∀ x ∈ M1, Has tyEntity x) (hq1 : (Dat.l L1).bulk ≤ 1099511627776) (hv1 : m1 ≤ 9223372036854775807) (hl2 : Lies w (.l L2) [.slice A2 n2 c2]) (hr2 : Lies w (.l M2) [.slice B2 m2 k2]) (ht2 : ∀ x ∈ L2, Has tySent x) (hu2 : ∀ x ∈ M2, Has tySent x) (hq2 : (Dat.l L2).bulk ≤ 1099511627776) (hv2 : m2 ≤ 9223372036854775807) (hl3 : Lies w (.l L3) [.slice A3 n3 c3]) (hr3 : Lies w (.l M3) [.slice B3 m3 k3]) (ht3 : ∀ x ∈ L3, Has tyLink x) (hu3 : ∀ x ∈ M3, Has tyLink x) (hq3 : (Dat.l L3).bulk ≤ 1099511627776) (hv3 : m3 ≤ 9223372036854775807) (hl4 : Lies w (.l L4) [.slice A4 n4 c4]) (hr4 : Lies w (.l M4) [.slice B4 m4 k4]) (ht4 : ∀ x ∈ L4, Has tyOutgoing x) (hu4 : ∀ x ∈ M4, Has tyOutgoing x) (hq4 : (Dat.l L4).bulk ≤ 1099511627776) (hv4 : m4 ≤ 9223372036854775807) :
    Calls Try.prog 19 #[.agg #[.int .i64 f0, .slice A1 n1 c1, .slice A2 n2 c2, .slice A3 n3 c3, .slice A4 n4 c4], .agg #[.int .i64 g0, .slice B1 m1 k1, .slice B2 m2 k2, .slice B3 m3 k3, .slice B4 m4 k4]] w (GivesBool (eq1 (.r [.i f0, .l L1, .l L2, .l L3, .l L4]) (.r [.i g0, .l M1, .l M2, .l M3, .l M4])) w) := by
  have HL1 := Lib.hid hl1
  have HR1 := Lib.hid hr1
  have HT1 := Lib.hid ht1
  have HU1 := Lib.hid hu1
  have HC1 := Lib.hid hl1.count
  have HD1 := Lib.hid hr1.count
  have HQ1 := Lib.hid hq1
  have HL2 := Lib.hid hl2
  have HR2 := Lib.hid hr2
  have HT2 := Lib.hid ht2
  have HU2 := Lib.hid hu2
  have HC2 := Lib.hid hl2.count
  have HD2 := Lib.hid hr2.count
  have HQ2 := Lib.hid hq2
  have HL3 := Lib.hid hl3
  have HR3 := Lib.hid hr3
  have HT3 := Lib.hid ht3
  have HU3 := Lib.hid hu3
  have HC3 := Lib.hid hl3.count
  have HD3 := Lib.hid hr3.count
  have HQ3 := Lib.hid hq3
  have HL4 := Lib.hid hl4
  have HR4 := Lib.hid hr4
  have HT4 := Lib.hid ht4
  have HU4 := Lib.hid hu4
  have HC4 := Lib.hid hl4.count
  have HD4 := Lib.hid hr4.count
  have HQ4 := Lib.hid hq4
  clear hl1 hr1 ht1 hu1 hl2 hr2 ht2 hu2 hl3 hr3 ht3 hu3 hl4 hr4 ht4 hu4
  have X := ((Held.start w).push #[.int .i64 f0, .slice A1 n1 c1, .slice A2 n2 c2, .slice A3 n3 c3, .slice A4 n4 c4] 29).push #[.int .i64 g0, .slice B1 m1 k1, .slice B2 m2 k2, .slice B3 m3 k3, .slice B4 m4 k4] 29
  simp only [World.size_alloc] at X
  replace X := Lib.hid X
  by_cases e0 : f0 = g0
  · subst e0
    by_cases e1 : L1 = M1
    · subst e1
      by_cases e2 : L2 = M2
      · subst e2
        by_cases e3 : L3 = M3
        · subst e3
          by_cases e4 : L4 = M4
          · subst e4
            have HN := Lib.hid (eq1_yes (.r [.i f0, .l L1, .l L2, .l L3, .l L4])).symm
            go_enter Try.func19, Try.ntmps19
            go_wp2_with fail
            refine (eqEnts _ _ A1 B1 n1 c1 m1 k1 _ (HL1.out.below X.out.1) (HR1.out.below X.out.1) HT1.out HU1.out hq1 hv1).mono ?_
            rintro e w1 ⟨rfl, hb⟩
            rw [eqD_yes]
            replace X := Lib.hid (X.out.below hb)
            clear hb
            obtain ⟨x0, x1, x2, x3, x4⟩ := (X.out.box (g := w.heap.size) (cs := [.int .i64 f0, .slice A1 n1 c1, .slice A2 n2 c2, .slice A3 n3 c3, .slice A4 n4 c4]) (by repeat (first | exact List.mem_cons_self | refine List.mem_cons_of_mem _ ?_))).c5
            obtain ⟨y0, y1, y2, y3, y4⟩ := (X.out.box (g := w.heap.size + 1) (cs := [.int .i64 f0, .slice B1 m1 k1, .slice B2 m2 k2, .slice B3 m3 k3, .slice B4 m4 k4]) (by repeat (first | exact List.mem_cons_self | refine List.mem_cons_of_mem _ ?_))).c5
            go_wp2_with fail
            refine (implEqSents _ _ A2 B2 n2 c2 m2 k2 _ (HL2.out.below X.out.1) (HR2.out.below X.out.1) HT2.out HU2.out hq2 hv2).mono ?_
            rintro e w2 ⟨rfl, hb⟩
            rw [eqD_yes]
            replace X := Lib.hid (X.out.below hb)
            clear hb
            clear x0 x1 x2 x3 x4 y0 y1 y2 y3 y4
            obtain ⟨x0, x1, x2, x3, x4⟩ := (X.out.box (g := w.heap.size) (cs := [.int .i64 f0, .slice A1 n1 c1, .slice A2 n2 c2, .slice A3 n3 c3, .slice A4 n4 c4]) (by repeat (first | exact List.mem_cons_self | refine List.mem_cons_of_mem _ ?_))).c5
            obtain ⟨y0, y1, y2, y3, y4⟩ := (X.out.box (g := w.heap.size + 1) (cs := [.int .i64 f0, .slice B1 m1 k1, .slice B2 m2 k2, .slice B3 m3 k3, .slice B4 m4 k4]) (by repeat (first | exact List.mem_cons_self | refine List.mem_cons_of_mem _ ?_))).c5
            go_wp2_with fail
            refine (eqLnks _ _ A3 B3 n3 c3 m3 k3 _ (HL3.out.below X.out.1) (HR3.out.below X.out.1) HT3.out HU3.out hq3 hv3).mono ?_
            rintro e w3 ⟨rfl, hb⟩
            rw [eqD_yes]
            replace X := Lib.hid (X.out.below hb)
            clear hb
            clear x0 x1 x2 x3 x4 y0 y1 y2 y3 y4
            obtain ⟨x0, x1, x2, x3, x4⟩ := (X.out.box (g := w.heap.size) (cs := [.int .i64 f0, .slice A1 n1 c1, .slice A2 n2 c2, .slice A3 n3 c3, .slice A4 n4 c4]) (by repeat (first | exact List.mem_cons_self | refine List.mem_cons_of_mem _ ?_))).c5
            obtain ⟨y0, y1, y2, y3, y4⟩ := (X.out.box (g := w.heap.size + 1) (cs := [.int .i64 f0, .slice B1 m1 k1, .slice B2 m2 k2, .slice B3 m3 k3, .slice B4 m4 k4]) (by repeat (first | exact List.mem_cons_self | refine List.mem_cons_of_mem _ ?_))).c5
            go_wp2_with fail
            refine (eqOuts _ _ A4 B4 n4 c4 m4 k4 _ (HL4.out.below X.out.1) (HR4.out.below X.out.1) HT4.out HU4.out hq4 hv4).mono ?_
            rintro e w4 ⟨rfl, hb⟩
            rw [eqD_yes]
            replace X := Lib.hid (X.out.below hb)
            clear hb
            clear x0 x1 x2 x3 x4 y0 y1 y2 y3 y4
            obtain ⟨x0, x1, x2, x3, x4⟩ := (X.out.box (g := w.heap.size) (cs := [.int .i64 f0, .slice A1 n1 c1, .slice A2 n2 c2, .slice A3 n3 c3, .slice A4 n4 c4]) (by repeat (first | exact List.mem_cons_self | refine List.mem_cons_of_mem _ ?_))).c5
            obtain ⟨y0, y1, y2, y3, y4⟩ := (X.out.box (g := w.heap.size + 1) (cs := [.int .i64 f0, .slice B1 m1 k1, .slice B2 m2 k2, .slice B3 m3 k3, .slice B4 m4 k4]) (by repeat (first | exact List.mem_cons_self | refine List.mem_cons_of_mem _ ?_))).c5
            go_wp2_with fail
            go_ret
            exact GivesBool.of HN.out X.out.1
          · have HN : Hid (false = eq1 _ _) := Lib.hid (eq1_no (d := .r [.i f0, .l L1, .l L2, .l L3, .l L4]) (d' := .r [.i f0, .l L1, .l L2, .l L3, .l M4]) (by simp [e4])).symm
            have HN9 : Hid (eqD L4 M4 = false) := Lib.hid (eqD_no e4)
            clear e4
            go_enter Try.func19, Try.ntmps19
            go_wp2_with fail
            refine (eqEnts _ _ A1 B1 n1 c1 m1 k1 _ (HL1.out.below X.out.1) (HR1.out.below X.out.1) HT1.out HU1.out hq1 hv1).mono ?_
            rintro e w1 ⟨rfl, hb⟩
            rw [eqD_yes]
            replace X := Lib.hid (X.out.below hb)
            clear hb
            obtain ⟨x0, x1, x2, x3, x4⟩ := (X.out.box (g := w.heap.size) (cs := [.int .i64 f0, .slice A1 n1 c1, .slice A2 n2 c2, .slice A3 n3 c3, .slice A4 n4 c4]) (by repeat (first | exact List.mem_cons_self | refine List.mem_cons_of_mem _ ?_))).c5
            obtain ⟨y0, y1, y2, y3, y4⟩ := (X.out.box (g := w.heap.size + 1) (cs := [.int .i64 f0, .slice B1 m1 k1, .slice B2 m2 k2, .slice B3 m3 k3, .slice B4 m4 k4]) (by repeat (first | exact List.mem_cons_self | refine List.mem_cons_of_mem _ ?_))).c5
            go_wp2_with fail
            refine (implEqSents _ _ A2 B2 n2 c2 m2 k2 _ (HL2.out.below X.out.1) (HR2.out.below X.out.1) HT2.out HU2.out hq2 hv2).mono ?_
            rintro e w2 ⟨rfl, hb⟩
            rw [eqD_yes]
            replace X := Lib.hid (X.out.below hb)
            clear hb
            clear x0 x1 x2 x3 x4 y0 y1 y2 y3 y4
            obtain ⟨x0, x1, x2, x3, x4⟩ := (X.out.box (g := w.heap.size) (cs := [.int .i64 f0, .slice A1 n1 c1, .slice A2 n2 c2, .slice A3 n3 c3, .slice A4 n4 c4]) (by repeat (first | exact List.mem_cons_self | refine List.mem_cons_of_mem _ ?_))).c5
            obtain ⟨y0, y1, y2, y3, y4⟩ := (X.out.box (g := w.heap.size + 1) (cs := [.int .i64 f0, .slice B1 m1 k1, .slice B2 m2 k2, .slice B3 m3 k3, .slice B4 m4 k4]) (by repeat (first | exact List.mem_cons_self | refine List.mem_cons_of_mem _ ?_))).c5
            go_wp2_with fail
            refine (eqLnks _ _ A3 B3 n3 c3 m3 k3 _ (HL3.out.below X.out.1) (HR3.out.below X.out.1) HT3.out HU3.out hq3 hv3).mono ?_
            rintro e w3 ⟨rfl, hb⟩
            rw [eqD_yes]
            replace X := Lib.hid (X.out.below hb)
            clear hb
            clear x0 x1 x2 x3 x4 y0 y1 y2 y3 y4
            obtain ⟨x0, x1, x2, x3, x4⟩ := (X.out.box (g := w.heap.size) (cs := [.int .i64 f0, .slice A1 n1 c1, .slice A2 n2 c2, .slice A3 n3 c3, .slice A4 n4 c4]) (by repeat (first | exact List.mem_cons_self | refine List.mem_cons_of_mem _ ?_))).c5
            obtain ⟨y0, y1, y2, y3, y4⟩ := (X.out.box (g := w.heap.size + 1) (cs := [.int .i64 f0, .slice B1 m1 k1, .slice B2 m2 k2, .slice B3 m3 k3, .slice B4 m4 k4]) (by repeat (first | exact List.mem_cons_self | refine List.mem_cons_of_mem _ ?_))).c5
            go_wp2_with fail
            refine (eqOuts _ _ A4 B4 n4 c4 m4 k4 _ (HL4.out.below X.out.1) (HR4.out.below X.out.1) HT4.out HU4.out hq4 hv4).mono ?_
            rintro e w4 ⟨rfl, hb⟩
            rw [HN9.out]
            replace X := Lib.hid (X.out.below hb)
            clear hb
            clear x0 x1 x2 x3 x4 y0 y1 y2 y3 y4
            obtain ⟨x0, x1, x2, x3, x4⟩ := (X.out.box (g := w.heap.size) (cs := [.int .i64 f0, .slice A1 n1 c1, .slice A2 n2 c2, .slice A3 n3 c3, .slice A4 n4 c4]) (by repeat (first | exact List.mem_cons_self | refine List.mem_cons_of_mem _ ?_))).c5
            obtain ⟨y0, y1, y2, y3, y4⟩ := (X.out.box (g := w.heap.size + 1) (cs := [.int .i64 f0, .slice B1 m1 k1, .slice B2 m2 k2, .slice B3 m3 k3, .slice B4 m4 k4]) (by repeat (first | exact List.mem_cons_self | refine List.mem_cons_of_mem _ ?_))).c5
            go_wp2_with fail
            go_ret
            exact GivesBool.of HN.out X.out.1
        · have HN : Hid (false = eq1 _ _) := Lib.hid (eq1_no (d := .r [.i f0, .l L1, .l L2, .l L3, .l L4]) (d' := .r [.i f0, .l L1, .l L2, .l M3, .l M4]) (by simp [e3])).symm
          have HN9 : Hid (eqD L3 M3 = false) := Lib.hid (eqD_no e3)
          clear e3
          go_enter Try.func19, Try.ntmps19
          go_wp2_with fail
          refine (eqEnts _ _ A1 B1 n1 c1 m1 k1 _ (HL1.out.below X.out.1) (HR1.out.below X.out.1) HT1.out HU1.out hq1 hv1).mono ?_
          rintro e w1 ⟨rfl, hb⟩
          rw [eqD_yes]
          replace X := Lib.hid (X.out.below hb)
          clear hb
          obtain ⟨x0, x1, x2, x3, x4⟩ := (X.out.box (g := w.heap.size) (cs := [.int .i64 f0, .slice A1 n1 c1, .slice A2 n2 c2, .slice A3 n3 c3, .slice A4 n4 c4]) (by repeat (first | exact List.mem_cons_self | refine List.mem_cons_of_mem _ ?_))).c5
          obtain ⟨y0, y1, y2, y3, y4⟩ := (X.out.box (g := w.heap.size + 1) (cs := [.int .i64 f0, .slice B1 m1 k1, .slice B2 m2 k2, .slice B3 m3 k3, .slice B4 m4 k4]) (by repeat (first | exact List.mem_cons_self | refine List.mem_cons_of_mem _ ?_))).c5
          go_wp2_with fail
          refine (implEqSents _ _ A2 B2 n2 c2 m2 k2 _ (HL2.out.below X.out.1) (HR2.out.below X.out.1) HT2.out HU2.out hq2 hv2).mono ?_
          rintro e w2 ⟨rfl, hb⟩
          rw [eqD_yes]
          replace X := Lib.hid (X.out.below hb)
          clear hb
          clear x0 x1 x2 x3 x4 y0 y1 y2 y3 y4
          obtain ⟨x0, x1, x2, x3, x4⟩ := (X.out.box (g := w.heap.size) (cs := [.int .i64 f0, .slice A1 n1 c1, .slice A2 n2 c2, .slice A3 n3 c3, .slice A4 n4 c4]) (by repeat (first | exact List.mem_cons_self | refine List.mem_cons_of_mem _ ?_))).c5
          obtain ⟨y0, y1, y2, y3, y4⟩ := (X.out.box (g := w.heap.size + 1) (cs := [.int .i64 f0, .slice B1 m1 k1, .slice B2 m2 k2, .slice B3 m3 k3, .slice B4 m4 k4]) (by repeat (first | exact List.mem_cons_self | refine List.mem_cons_of_mem _ ?_))).c5
          go_wp2_with fail
          refine (eqLnks _ _ A3 B3 n3 c3 m3 k3 _ (HL3.out.below X.out.1) (HR3.out.below X.out.1) HT3.out HU3.out hq3 hv3).mono ?_
          rintro e w3 ⟨rfl, hb⟩
          rw [HN9.out]
          replace X := Lib.hid (X.out.below hb)
          clear hb
          clear x0 x1 x2 x3 x4 y0 y1 y2 y3 y4
          obtain ⟨x0, x1, x2, x3, x4⟩ := (X.out.box (g := w.heap.size) (cs := [.int .i64 f0, .slice A1 n1 c1, .slice A2 n2 c2, .slice A3 n3 c3, .slice A4 n4 c4]) (by repeat (first | exact List.mem_cons_self | refine List.mem_cons_of_mem _ ?_))).c5
          obtain ⟨y0, y1, y2, y3, y4⟩ := (X.out.box (g := w.heap.size + 1) (cs := [.int .i64 f0, .slice B1 m1 k1, .slice B2 m2 k2, .slice B3 m3 k3, .slice B4 m4 k4]) (by repeat (first | exact List.mem_cons_self | refine List.mem_cons_of_mem _ ?_))).c5
          go_wp2_with fail
          go_ret
          exact GivesBool.of HN.out X.out.1
      · have HN : Hid (false = eq1 _ _) := Lib.hid (eq1_no (d := .r [.i f0, .l L1, .l L2, .l L3, .l L4]) (d' := .r [.i f0, .l L1, .l M2, .l M3, .l M4]) (by simp [e2])).symm
        have HN9 : Hid (eqD L2 M2 = false) := Lib.hid (eqD_no e2)
        clear e2
        go_enter Try.func19, Try.ntmps19
        go_wp2_with fail
        refine (eqEnts _ _ A1 B1 n1 c1 m1 k1 _ (HL1.out.below X.out.1) (HR1.out.below X.out.1) HT1.out HU1.out hq1 hv1).mono ?_
        rintro e w1 ⟨rfl, hb⟩
        rw [eqD_yes]
        replace X := Lib.hid (X.out.below hb)
        clear hb
        obtain ⟨x0, x1, x2, x3, x4⟩ := (X.out.box (g := w.heap.size) (cs := [.int .i64 f0, .slice A1 n1 c1, .slice A2 n2 c2, .slice A3 n3 c3, .slice A4 n4 c4]) (by repeat (first | exact List.mem_cons_self | refine List.mem_cons_of_mem _ ?_))).c5
        obtain ⟨y0, y1, y2, y3, y4⟩ := (X.out.box (g := w.heap.size + 1) (cs := [.int .i64 f0, .slice B1 m1 k1, .slice B2 m2 k2, .slice B3 m3 k3, .slice B4 m4 k4]) (by repeat (first | exact List.mem_cons_self | refine List.mem_cons_of_mem _ ?_))).c5
        go_wp2_with fail
        refine (implEqSents _ _ A2 B2 n2 c2 m2 k2 _ (HL2.out.below X.out.1) (HR2.out.below X.out.1) HT2.out HU2.out hq2 hv2).mono ?_
        rintro e w2 ⟨rfl, hb⟩
        rw [HN9.out]
        replace X := Lib.hid (X.out.below hb)
        clear hb
        clear x0 x1 x2 x3 x4 y0 y1 y2 y3 y4
        obtain ⟨x0, x1, x2, x3, x4⟩ := (X.out.box (g := w.heap.size) (cs := [.int .i64 f0, .slice A1 n1 c1, .slice A2 n2 c2, .slice A3 n3 c3, .slice A4 n4 c4]) (by repeat (first | exact List.mem_cons_self | refine List.mem_cons_of_mem _ ?_))).c5
        obtain ⟨y0, y1, y2, y3, y4⟩ := (X.out.box (g := w.heap.size + 1) (cs := [.int .i64 f0, .slice B1 m1 k1, .slice B2 m2 k2, .slice B3 m3 k3, .slice B4 m4 k4]) (by repeat (first | exact List.mem_cons_self | refine List.mem_cons_of_mem _ ?_))).c5
        go_wp2_with fail
        go_ret
        exact GivesBool.of HN.out X.out.1
    · have HN : Hid (false = eq1 _ _) := Lib.hid (eq1_no (d := .r [.i f0, .l L1, .l L2, .l L3, .l L4]) (d' := .r [.i f0, .l M1, .l M2, .l M3, .l M4]) (by simp [e1])).symm
      have HN9 : Hid (eqD L1 M1 = false) := Lib.hid (eqD_no e1)
      clear e1
      go_enter Try.func19, Try.ntmps19
      go_wp2_with fail
      refine (eqEnts _ _ A1 B1 n1 c1 m1 k1 _ (HL1.out.below X.out.1) (HR1.out.below X.out.1) HT1.out HU1.out hq1 hv1).mono ?_
      rintro e w1 ⟨rfl, hb⟩
      rw [HN9.out]
      replace X := Lib.hid (X.out.below hb)
      clear hb
      obtain ⟨x0, x1, x2, x3, x4⟩ := (X.out.box (g := w.heap.size) (cs := [.int .i64 f0, .slice A1 n1 c1, .slice A2 n2 c2, .slice A3 n3 c3, .slice A4 n4 c4]) (by repeat (first | exact List.mem_cons_self | refine List.mem_cons_of_mem _ ?_))).c5
      obtain ⟨y0, y1, y2, y3, y4⟩ := (X.out.box (g := w.heap.size + 1) (cs := [.int .i64 f0, .slice B1 m1 k1, .slice B2 m2 k2, .slice B3 m3 k3, .slice B4 m4 k4]) (by repeat (first | exact List.mem_cons_self | refine List.mem_cons_of_mem _ ?_))).c5
      go_wp2_with fail
      go_ret
      exact GivesBool.of HN.out X.out.1
  · have hb0 : (f0 == g0) = false := by simpa using e0
    have HN : Hid (false = eq1 _ _) := Lib.hid (eq1_no (d := .r [.i f0, .l L1, .l L2, .l L3, .l L4]) (d' := .r [.i g0, .l M1, .l M2, .l M3, .l M4]) (by simp [e0])).symm
    clear e0
    go_enter Try.func19, Try.ntmps19
    go_wp2_with fail
    go_ret
    exact GivesBool.of HN.out X.out.1
end Go.Proofs.Ytmeacgpebpfpbaa
